/-
  Joined: RecB, Num, PackRead, PackList, NumbersPlain.
-/
import Derived.Test.YtdopgkbegjfhjaaGreatDoorR21
import Derived.Test.YtdopgkbegjfhjaaGreatDoorR24

namespace Go.Proofs.YtdopgkbegjfhjaaGreatDoor
set_option maxRecDepth 100000
set_option maxHeartbeats 16000000
open Go.RowKit
set_option linter.unusedVariables false
set_option linter.unusedSimpArgs false

def BugsTold (t:ByteArray) (e:Ending):Prop:=∃ (v:Value) (b:Bool),e=.returned (.tuple #[v,.bool b])∧(b=true↔ComOk t)
theorem comOk_no {t:ByteArray} (h:NoList t):¬ ComOk t:=fun ⟨zs,hL,_⟩=>h zs hL
theorem comOk_len {t:ByteArray} {zs:List Nat} (h:Listed t zs) (hz:¬ (zs.length % 3=0∧zs.length≤90)):¬ ComOk t:=by
 rintro ⟨ys,hL,h1,h2,_⟩
 obtain rfl:=h.only hL
 exact hz ⟨h1,h2⟩
theorem comOk_rise {t:ByteArray} {zs:List Nat} (h:Listed t zs) (h1:zs.length % 3=0) (h2:zs.length≤90):riseB (triples (ofNats zs))=true↔ComOk t:=by
 constructor
 ·exact fun hr=>⟨zs,h,h1,h2,hr⟩
 ·rintro ⟨ys,hL,_,_,hr⟩
  obtain rfl:=h.only hL
  exact hr

theorem l13Bugs_is (t:ByteArray) (w:World) (ht:t.size≤1048576) :
  Calls Tryz.prog 49 #[.string t] w fun e w'=>BugsTold t e∧Below w.heap.size w w':=by
 obtain ⟨i0,hi,hz0,hz1,hz2⟩:=info_bug9
 go_enter Tryz.func49,Tryz.ntmps49
 go_wp2_with fail
 refine (l01Read_far t _ ht).mono ?_
 rintro e w1 ⟨hR,b1⟩
 rcases hR with ⟨zs,v,hL,rfl,ho⟩ | ⟨hN,v,rfl⟩
 rotate_left
 ·have HN:Hid (¬ ComOk t):=comOk_no hN
  clear hN
  go_wp2
  go_ret2
  exact ⟨⟨_,false,rfl,by simp [HN.out]⟩,b1.trans ((by go_grown:Below w1.heap.size w1 _).mono b1.size)⟩
 obtain ⟨n,hn⟩:∃ n,n=zs.length:=⟨_,rfl⟩
 have hn4:n≤4096:=by
  obtain ⟨_,_,h4,_⟩:=hL
  rw [hn];exact h4
 obtain ⟨a,c,rfl,hI⟩:∃ a c,v=.slice a n c∧Ints .i64 w1 a n c (ofNats zs):=by
  rcases id ho.2 with ⟨rfl,h0⟩ | ⟨g,cap,cur,rfl,_⟩
  ·have h00:zs=[]:=List.eq_nil_of_length_eq_zero h0
   subst h00
   exact ⟨none,0,by rw [hn];rfl,by rw [hn];exact ⟨rfl,Nat.le_refl _,by unfold maxLen;omega,.inl rfl⟩⟩
  ·refine ⟨some ⟨g,0,none⟩,cap,by rw [hn],?_⟩
   have h8:(ofNats zs).map (Value.int .i64)=natCells zs:=by simp [ofNats,natCells]
   rw [hn]
   exact Ints.of_owns (by rw [h8];exact ho)
 clear ho
 have HL:Hid (Listed t zs∧n=zs.length):=⟨hL,hn⟩
 clear hL
 have Hyl:Hid (n % 3=0→(ofNats zs).length=n):=fun _=>by simp [ofNats,hn]
 clear hn
 obtain ⟨r,hr9⟩:∃ r,r=n % 3:=⟨_,rfl⟩
 have hmod:((n:Int)).tmod 3=(r:Int):=by rw [Int.tmod_eq_emod_of_nonneg (by omega)];omega
 have hmod2:(n:Int) % 3=(r:Int):=by omega
 by_cases hg:n % 3=0∧n≤90
 rotate_left
 ·have HN:Hid (¬ ComOk t):=comOk_len HL.out.1 (by rw [← HL.out.2];exact hg)
  by_cases h3:n % 3=0
  ·have h4:(90:Int)<(n:Int):=by omega
   have hx:((r:Int) != 0)=false:=by simp;omega
   clear hr9 h3
   clear hI
   go_wp2
   go_ret2
   exact ⟨⟨_,false,rfl,by simp [HN.out]⟩,b1.trans ((by go_grown:Below w1.heap.size w1 _).mono b1.size)⟩
  ·have hx:((r:Int) != 0)=true:=by simp;omega
   clear hr9 h3 hg
   clear hI
   go_wp2
   go_ret2
   exact ⟨⟨_,false,rfl,by simp [HN.out]⟩,b1.trans ((by go_grown:Below w1.heap.size w1 _).mono b1.size)⟩
 obtain ⟨m,hm⟩:∃ m,n=3*m:=⟨n / 3,by omega⟩
 have hm30:m≤30:=by omega
 have hx:((r:Int) != 0)=false:=by have:=hg.1;simp;omega
 have hx2:¬ (90:Int)<(n:Int):=by omega
 have HR:=comOk_rise HL.out.1 (by rw [← HL.out.2];exact hg.1) (by rw [← HL.out.2];exact hg.2)
 have HRR:Hid (riseB (triples (ofNats zs))=true↔ComOk t):=HR
 have HF:Hid (∀ x ∈ triples (ofNats zs),I3.fits x):=by
  have hs:=listed_small9 HL.out.1
  intro x hx
  obtain ⟨m1,m2,m3⟩:=triples_mem _ x hx
  exact ⟨wf_small9 (hs _ m1),wf_small9 (hs _ m2),wf_small9 (hs _ m3)⟩
 have hyl:(ofNats zs).length=3*m:=by rw [Hyl.out hg.1,hm]
 clear HR HL hg hr9 Hyl
 generalize ofNats zs=ys at hI HRR hyl HF
 have htl:(triples ys).length=m:=triples_length m ys hyl
 have HG:Hid (∀ i,i<m→(triples ys).getD i (0,0,0)=(ys.getD (3*i) 0,ys.getD (3*i+1) 0,ys.getD (3*i+2) 0)):=fun i hi=>triples_get m ys i hyl hi
 have Hm:Hid (n=3*m):=hm
 clear hm
 go_wp2
 go_loopw [6,7] (fun sv si wr=>∃ k j0:Nat,k≤m∧Hid (j0=3*k)∧si=.int .i64 (j0:Int)∧wr.ownsRow w1.heap.size 112 3 sv k (flat ((triples ys).take k))∧Below w1.heap.size w1 wr) (fun _ si _=>n - (intOf si).toNat)
 case atStart=>exact ⟨0,0,by omega,rfl,rfl,World.ownsRow_lit w1 #[] 0 (Nat.le_refl _) (by unfold maxLen;omega) rfl,by go_grown⟩
 case round =>
  obtain ⟨k,j0,hk,hj0,rfl,hr,hb⟩:=hrel
  by_cases hlt:k<m
  ·obtain ⟨e1,e2,e3,hcase⟩:=hI
   rcases hcase with h0 | ⟨b,off,rfl,hbl,hc⟩
   ·exfalso;have:=Hm.out;omega
   obtain ⟨j1,hj1⟩:∃ j1,j1=j0+1:=⟨_,rfl⟩
   obtain ⟨j2,hj2⟩:∃ j2,j2=j0+2:=⟨_,rfl⟩
   obtain ⟨j3,hj3⟩:∃ j3,j3=j0+3:=⟨_,rfl⟩
   have hjn:j0+3≤n:=by have:=Hm.out;have:=hj0.out;omega
   have d0:=hc j0 (by omega)
   have d1:=hc j1 (by omega)
   have d2:=hc j2 (by omega)
   rw [← hb.cell (p:=⟨b,_,none⟩) hbl] at d0 d1 d2
   have hgt:=HG.out k hlt
   have t0:ys.getD j0 0=((triples ys).getD k (0,0,0)).1:=by rw [hgt,hj0.out]
   have t1:ys.getD j1 0=((triples ys).getD k (0,0,0)).2.1:=by rw [hgt,hj1,hj0.out]
   have t2:ys.getD j2 0=((triples ys).getD k (0,0,0)).2.2:=by rw [hgt,hj2,hj0.out]
   rw [t0] at d0
   rw [t1] at d1
   rw [t2] at d2
   have hst:Hid (flat ((triples ys).take (k+1))=flat ((triples ys).take k)++((triples ys).getD k (0,0,0)).cells):=flat_take_succ (by omega)
   clear hgt t0 t1 t2 hc
   generalize (triples ys).getD k (0,0,0)=x at d0 d1 d2 hst
   have u1:IntKind.i64.wrap ((j0:Int)+1)=(j1:Int):=(IntWalk.i64_in _ ⟨by omega,by omega⟩).trans (by omega)
   have u2:IntKind.i64.wrap ((j0:Int)+2)=(j2:Int):=(IntWalk.i64_in _ ⟨by omega,by omega⟩).trans (by omega)
   have u3:IntKind.i64.wrap ((j0:Int)+3)=(j3:Int):=(IntWalk.i64_in _ ⟨by omega,by omega⟩).trans (by omega)
   have v0:(j0:Int)<(n:Int):=by omega
   have v1:(j1:Int)<(n:Int):=by omega
   have v2:(j2:Int)<(n:Int):=by omega
   have z0:(0:Int)≤(j0:Int):=by omega
   have z1:(0:Int)≤(j1:Int):=by omega
   have z2:(0:Int)≤(j2:Int):=by omega
   have n0:j0<n:=by omega
   have n1:j1<n:=by omega
   have n2:j2<n:=by omega
   have HJ:Hid (j3=3*(k+1)∧j0<j3∧j3≤n):=⟨by have:=hj0.out;omega,by omega,by omega⟩
   clear hj1 hj2 hj3 hjn
   have hm1:k+1≤maxLen:=by unfold maxLen;omega
   have hm2:(k+1)*24≤140737488355328:=by omega
   have hm3:w1.heap.size≤(wr.alloc (.cells #[.int .i64 x.1,.int .i64 x.2.1,.int .i64 x.2.2] 112)).drew.heap.size:=by have:=hb.size;simp;omega
   have hbis:=hb.size
   go_wp2_with fail
   go_region_held3 (fun w'=>w'.cell? ⟨b,off+j0,none⟩=some (.int .i64 x.1)∧w'.cell? ⟨b,off+j1,none⟩=some (.int .i64 x.2.1)∧w'.cell? ⟨b,off+j2,none⟩=some (.int .i64 x.2.2)) (first | (exact ⟨d0,d1,d2⟩) | (exact ⟨q1,q2,q3⟩) | go_keep)
    (first | (refine step_append_mine rfl _ _ 72 rfl w1.heap.size 112 i0 (.agg #[.int .i64 0,.int .i64 0,.int .i64 0]) 3 24 Tryz.underlying72 hi hz0 hz1 hz2 rfl (by decide) _ k (flat ((triples ys).take k)) rfl (own_dr (hr.alloc _)) ⟨wr.heap.size,0,none⟩ 1 1 [.int .i64 x.1,.int .i64 x.2.1,.int .i64 x.2.2] rfl rfl (three_dr wr _ _ _ _) (three_i64 _ _ _) hm1 hm2 hm3 ?_;intro v3 w3 hown3 hgrow3;have hB3:=below_app3 hbis hr hgrow3;have q1:=cells_lo3 hB3 hbl d0;have q2:=cells_lo3 hB3 hbl d1;have q3:=cells_lo3 hB3 hbl d2))
   have hr3:w3.ownsRow w1.heap.size 112 3 v3 (k+1) (flat ((triples ys).take (k+1))):=by rw [hst.out];exact hown3
   have hb3:Below w1.heap.size w1 w3:=hb.trans hB3
   clear hown3 hgrow3 hB3 q1 q2 q3 d0 d1 d2 hr hb hm1 hm2 hm3 hbis hst
   go_wp2
   go_roundw
   case rel=>exact ⟨k+1,j3,by omega,HJ.out.1,rfl,hr3,hb3⟩
   case measure=>have:=HJ.out;simp [intOf];omega
  ·have hx9:¬ (j0:Int)<(n:Int):=by have:=Hm.out;have:=hj0.out;omega
   obtain rfl:k=m:=by omega
   rw [show (triples ys).take k=triples ys by rw [← htl,List.take_length]] at hr
   rw [← htl] at hr
   obtain ⟨a2,c2,rfl,hII⟩:=Instrs.of_ownB9 hr HF.out
   clear hr
   rw [htl] at hII ⊢
   go_wp2_with fail
   refine (l10Rising_is _ _ _ (triples ys) _ hII).mono ?_
   rintro e w4 ⟨rfl,b4⟩
   have b9:=b1.trans ((hb.trans (b4.mono hb.size)).mono b1.size)
   generalize riseB (triples ys)=rb at HRR
   clear hII HF HG
   go_wp2
   go_ret2
   exact ⟨⟨_,_,rfl,HRR.out⟩,b9⟩


theorem appendNumber_any (base m:Nat) (v:Value) (xs:List Int) (n:Nat) (w:World) (hn:n≤999999999) (hown:w.ownsRow base 5 1 v m (u8s xs)) (hb:base≤w.heap.size) (hm:m≤1099511627776) :
  Calls Tryz.prog 68 #[v,.int .i64 n] w fun e w'=>∃ v',e=.returned v'∧w'.ownsRow base 5 1 v' (m+(pack n).length) (u8s (xs++pack n))∧Below base w w':=by
 obtain ⟨i0,hi,hz0,hz1,hz2⟩:=info_parts info_u8
 go_enter Tryz.func68,Tryz.ntmps68
 go_wp2
 go_loopw [0,1] (fun sv si wr=>∃ (k:Nat) (ys:List Int),k≤999999999∧si=.int .i64 k∧wr.ownsRow base 5 1 sv (m+ys.length) (u8s (xs++ys))∧Hid (ys++pack k=pack n)∧Below base w wr) (fun _ si _=>(intOf si).toNat)
 case atStart=>exact ⟨n,[],hn,rfl,by simpa using hown,by simp [Hid],Below.refl _ _⟩
 case round =>
  obtain ⟨k,ys,hk,rfl,ho,HY,hbel⟩:=hrel
  have hlen:ys.length≤4:=by
   have h1:=congrArg List.length HY.out
   have h2:=pack_len k
   have h3:=pack_len n
   simp at h1;omega
  have hbw:base≤wr.heap.size:=by have:=hbel.size;omega
  by_cases hlt:128≤k
  ·go_wp2_with (at_builtin;refine wpList_append_own _ rfl _ _ 22 rfl base 5 i0 (.int .u8 0) 1 1 Tryz.underlying22 hi hz0 hz1 hz2 rfl (by decide) _ _ _ rfl (ho.alloc _) ⟨wr.heap.size,0,none⟩ 1 1 [.int .u8 ((k:Int) % 128+128)] rfl rfl (cell_one_new _ _ _) (one_u8 _) ?c3 ?c4 ?c5 ?_)
   case c3=>unfold maxLen;omega
   case c4=>omega
   case c5=>simp;omega
   intro v' w1 hown' hgrow _
   have R:w1.ownsRow base 5 1 v' (m+(ys++[(k:Int) % 128+128]).length) (u8s (xs++(ys++[(k:Int) % 128+128]))):=by simpa [Nat.add_assoc] using hown'
   have hb1:Below base w w1:=(hbel.alloc hbw _).grown hgrow (by simp;omega) (fun j hj=>(ho.lt _ hj).1)
   clear hown' hgrow ho
   go_wp2
   go_roundw
   case rel=>exact ⟨k / 128,ys++[(k:Int) % 128+128],by omega,by go_num,R,by rw [Hid,List.append_assoc,List.singleton_append,← pack_step hlt (by omega)];exact HY.out,hb1⟩
   case measure=>simp [intOf];omega
  ·go_wp2_with (at_builtin;refine wpList_append_own _ rfl _ _ 22 rfl base 5 i0 (.int .u8 0) 1 1 Tryz.underlying22 hi hz0 hz1 hz2 rfl (by decide) _ _ _ rfl (ho.alloc _) ⟨wr.heap.size,0,none⟩ 1 1 [.int .u8 (k:Int)] rfl rfl (cell_one_new _ _ _) (one_u8 _) ?d3 ?d4 ?d5 ?_)
   case d3=>unfold maxLen;omega
   case d4=>omega
   case d5=>simp;omega
   intro v' w1 hown' hgrow _
   have hb1:Below base w w1:=(hbel.alloc hbw _).grown hgrow (by simp;omega) (fun j hj=>(ho.lt _ hj).1)
   have hp:pack n=ys++[(k:Int)]:=by rw [← HY.out,pack_small (by omega)]
   have R:w1.ownsRow base 5 1 v' (m+(pack n).length) (u8s (xs++pack n)):=by rw [hp];simpa [Nat.add_assoc] using hown'
   clear hown' hgrow ho hp HY
   go_wp2
   go_ret
   exact ⟨v',rfl,R,hb1⟩


def bytesAt (s:ByteArray) (p:Nat) (xs:List Int):Prop:=p+xs.length≤s.size∧∀ i,i<xs.length→(bt s (p+i):Int)=xs.getD i 0
theorem bytesAt_left {s:ByteArray} {p:Nat} {xs ys:List Int} (h:bytesAt s p (xs++ys)):bytesAt s p xs:=by
 obtain ⟨h1,h2⟩:=h
 rw [List.length_append] at h1
 refine ⟨by omega,fun i hi=>?_⟩
 rw [h2 i (by rw [List.length_append];omega)]
 simp [List.getD,List.getElem?_append_left hi]
theorem bytesAt_right {s:ByteArray} {p:Nat} {xs ys:List Int} (h:bytesAt s p (xs++ys)):bytesAt s (p+xs.length) ys:=by
 obtain ⟨h1,h2⟩:=h
 rw [List.length_append] at h1
 refine ⟨by omega,fun i hi=>?_⟩
 have:=h2 (xs.length+i) (by rw [List.length_append];omega)
 rw [show p+xs.length+i=p+(xs.length+i) by omega,this]
 simp [List.getD,List.getElem?_append_right (show xs.length≤xs.length+i by omega)]

theorem num_of_bytes {s:ByteArray} {p n:Nat} (hn:n≤999999999) (h:bytesAt s p (pack n)):Num s p n (pack n).length:=by
 obtain ⟨hs,hb⟩:=h
 by_cases h1:n<128
 ·rw [pack_small h1] at hs hb ⊢
  have b0:=hb 0 (by simp)
  simp at b0 hs
  refine ⟨⟨by simp,by simp,by simpa using hs,fun i hi=>by simp at hi,by simp;omega⟩,by simp,?_,hn⟩
  simp only [List.length_cons,List.length_nil,val]
  omega
 by_cases h2:n<16384
 ·rw [pack2 (by omega) h2] at hs hb ⊢
  have b0:=hb 0 (by simp)
  have b1:=hb 1 (by simp)
  simp at b0 b1 hs
  refine ⟨⟨by simp,by simp,by simpa using hs,fun i hi=>?_,?_⟩,?_,?_,hn⟩
  ·simp at hi;obtain rfl:i=0:=by omega
   simp;omega
  ·simp only [List.length_cons,List.length_nil,show p+(0+1+1) - 1=p+1 by omega];omega
  ·simp only [List.length_cons,List.length_nil,show p+(0+1+1) - 1=p+1 by omega];omega
  ·simp only [List.length_cons,List.length_nil,val];omega
 by_cases h3:n<2097152
 ·rw [pack3 (by omega) h3] at hs hb ⊢
  have b0:=hb 0 (by simp)
  have b1:=hb 1 (by simp)
  have b2:=hb 2 (by simp)
  simp at b0 b1 b2 hs
  refine ⟨⟨by simp,by simp,by simpa using hs,fun i hi=>?_,?_⟩,?_,?_,hn⟩
  ·simp at hi
   have:i=0∨i=1:=by omega
   rcases this with rfl | rfl
   ·simp;omega
   ·omega
  ·simp only [List.length_cons,List.length_nil,show p+(0+1+1+1) - 1=p+2 by omega];omega
  ·simp only [List.length_cons,List.length_nil,show p+(0+1+1+1) - 1=p+2 by omega];omega
  ·simp only [List.length_cons,List.length_nil,val];omega
 by_cases h4:n<268435456
 ·rw [pack4 (by omega) h4] at hs hb ⊢
  have b0:=hb 0 (by simp)
  have b1:=hb 1 (by simp)
  have b2:=hb 2 (by simp)
  have b3:=hb 3 (by simp)
  simp at b0 b1 b2 b3 hs
  refine ⟨⟨by simp,by simp,by simpa using hs,fun i hi=>?_,?_⟩,?_,?_,hn⟩
  ·simp at hi
   have:i=0∨i=1∨i=2:=by omega
   rcases this with rfl | rfl | rfl
   ·simp;omega
   ·omega
   ·omega
  ·simp only [List.length_cons,List.length_nil,show p+(0+1+1+1+1) - 1=p+3 by omega];omega
  ·simp only [List.length_cons,List.length_nil,show p+(0+1+1+1+1) - 1=p+3 by omega];omega
  ·simp only [List.length_cons,List.length_nil,val];omega
 ·rw [pack5 (by omega)] at hs hb ⊢
  have b0:=hb 0 (by simp)
  have b1:=hb 1 (by simp)
  have b2:=hb 2 (by simp)
  have b3:=hb 3 (by simp)
  have b4:=hb 4 (by simp)
  simp at b0 b1 b2 b3 b4 hs
  refine ⟨⟨by simp,by simp,by simpa using hs,fun i hi=>?_,?_⟩,?_,?_,hn⟩
  ·simp at hi
   have:i=0∨i=1∨i=2∨i=3:=by omega
   rcases this with rfl | rfl | rfl | rfl
   ·simp;omega
   ·omega
   ·omega
   ·omega
  ·simp only [List.length_cons,List.length_nil,show p+(0+1+1+1+1+1) - 1=p+4 by omega];omega
  ·simp only [List.length_cons,List.length_nil,show p+(0+1+1+1+1+1) - 1=p+4 by omega];omega
  ·simp only [List.length_cons,List.length_nil,val];omega

def packsN (zs:List Nat):List Int:=zs.flatMap fun z=>pack z
theorem numsAt_of_bytes {s:ByteArray}:∀ {zs:List Nat} {p:Nat},(∀ z ∈ zs,z≤999999999)→bytesAt s p (packsN zs)→NumsAt s p zs (p+(packsN zs).length)
 | [],p,_,_=>by simp [packsN,NumsAt]
 | z::zs,p,hz,h=>by
  have e:packsN (z::zs)=pack z++packsN zs:=by simp [packsN]
  rw [e] at h ⊢
  refine ⟨_,num_of_bytes (hz z (by simp)) (bytesAt_left h),?_⟩
  have:=numsAt_of_bytes (fun y hy=>hz y (by simp [hy])) (bytesAt_right h)
  rw [List.length_append,← Nat.add_assoc]
  exact this

theorem bt_str (xs:List Int) (h:∀ x ∈ xs,0≤x∧x≤255) (i:Nat) (hi:i<xs.length):(bt (strOfNums xs) i:Int)=xs.getD i 0:=by
 have hs:i<(strOfNums xs).size:=by rw [strOfNums_size];exact hi
 unfold bt
 rw [dif_pos hs]
 have hx:=h xs[i] (List.getElem_mem hi)
 have e:((strOfNums xs)[i]'hs)=UInt8.ofNat xs[i].toNat:=by
  show (strOfNums xs).data[i]'(by simpa using hs)=_
  simp [strOfNums]
 rw [e]
 simp [List.getElem?_eq_getElem hi]
 omega
theorem bytesAt_str (xs:List Int) (h:∀ x ∈ xs,0≤x∧x≤255):bytesAt (strOfNums xs) 0 xs:=
 ⟨by rw [strOfNums_size];omega,fun i hi=>by rw [Nat.zero_add];exact bt_str xs h i hi⟩


def allOk (zs:List Int):Prop:=∀ z ∈ zs,0≤z∧z≤999999999
def packs (zs:List Int):List Int:=zs.flatMap fun z=>pack z.toNat
def packL (zs:List Int):List Int:=pack zs.length++packs zs

theorem packs_len:∀ zs:List Int,(packs zs).length≤5*zs.length
 | []=>by simp [packs]
 | z::zs=>by
  have h:=packs_len zs
  have h2:=(pack_len z.toNat).2
  simp only [packs,List.flatMap_cons,List.length_append,List.length_cons] at h ⊢
  omega
theorem packs_snoc (zs:List Int) (k:Nat) (h:k<zs.length):packs (zs.take (k+1))=packs (zs.take k)++pack (zs.getD k 0).toNat:=by
 have g:zs.getD k 0=zs[k]:=by simp [List.getElem?_eq_getElem h]
 rw [g,List.take_succ_eq_append_getElem h]
 unfold packs
 rw [List.flatMap_append]
 simp only [List.flatMap_cons,List.flatMap_nil,List.append_nil]
theorem getD_mem {zs:List Int} {k:Nat} (h:k<zs.length):zs.getD k 0 ∈ zs:=by
 simp [List.getElem?_eq_getElem h]


theorem nats_of {zs:List Int} (h:∀ z ∈ zs,0≤z∧z≤999999999):∃ ns:List Nat,zs=ns.map (fun z:Nat=>(z:Int))∧∀ n ∈ ns,n≤999999999:=by
 refine ⟨zs.map Int.toNat,?_,?_⟩
 ·rw [List.map_map]
  conv=>lhs;rw [← List.map_id zs]
  apply List.map_congr_left
  intro z hz
  have:=h z hz
  simp only [id,Function.comp]
  omega
 ·intro n hn
  obtain ⟨z,hz,rfl⟩:=List.mem_map.1 hn
  have:=h z hz
  omega
theorem packL_nats (ns:List Nat):packL (ns.map (fun z:Nat=>(z:Int)))=pack ns.length++packsN ns:=by
 unfold packL packs packsN
 rw [List.length_map]
 congr 1
 induction ns with
 | nil=>rfl
 | cons n ns ih=>simp [List.flatMap_cons,ih]
theorem packsN_byte {ns:List Nat} (h:∀ n ∈ ns,n≤999999999):∀ x ∈ packsN ns,0≤x∧x≤255:=by
 intro x hx
 obtain ⟨n,hn,hx⟩:=List.mem_flatMap.1 hx
 exact pack_byte n (by have:=h n hn;omega) x hx
theorem packL_byte {ns:List Nat} (h:∀ n ∈ ns,n≤999999999) (hl:ns.length≤4096):∀ x ∈ pack ns.length++packsN ns,0≤x∧x≤255:=by
 intro x hx
 rcases List.mem_append.1 hx with hx | hx
 ·exact pack_byte _ (by omega) x hx
 ·exact packsN_byte h x hx
theorem listed_pack {ns:List Nat} (h:∀ n ∈ ns,n≤999999999) (hl:ns.length≤4096):Listed (strOfNums (pack ns.length++packsN ns)) ns:=by
 have hb:=bytesAt_str _ (packL_byte h hl)
 have hn:=num_of_bytes (by omega) (bytesAt_left hb)
 refine listed_of hn hl (numsAt_of_bytes h ?_) rfl ?_
 ·simpa using bytesAt_right hb
 ·rw [strOfNums_size,List.length_append]
end Go.Proofs.YtdopgkbegjfhjaaGreatDoor
