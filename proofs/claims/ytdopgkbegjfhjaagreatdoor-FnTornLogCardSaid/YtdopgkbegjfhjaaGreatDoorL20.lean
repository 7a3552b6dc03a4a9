/-
  Joined: BonI, MrgA, RecB, Num, PackNum0.
-/
import Derived.Test.YtdopgkbegjfhjaaGreatDoorL18
import Derived.Test.YtdopgkbegjfhjaaGreatDoorL19

namespace Go.Proofs.YtdopgkbegjfhjaaGreatDoor
set_option maxRecDepth 100000
set_option maxHeartbeats 16000000
open Go.RowKit
set_option linter.unusedVariables false
set_option linter.unusedSimpArgs false

def slLen:Value→Nat
 | .slice _ n _=>n
 | _=>0
def RowB (e:Ending) (w':World) (B:Nat) (xs:List I3):Prop:=∃ v,e=.returned v∧w'.ownsRow B 112 3 v xs.length (flat xs)
theorem RowB.mk9 {w':World} {B:Nat} {v:Value} {xs:List I3} (h:w'.ownsRow B 112 3 v xs.length (flat xs)):RowB (.returned v) w' B xs:=⟨v,rfl,h⟩
theorem info_bug9:∃ i,Tryz.prog.info? 112=some i∧i.zero=some (.agg #[.int .i64 0,.int .i64 0,.int .i64 0])∧i.size=3∧i.bytes=24:=info_parts (show (Tryz.prog.info? 112).map (fun i=>(i.zero,i.size,i.bytes))=some (some (.agg #[.int .i64 0,.int .i64 0,.int .i64 0]),3,24) by kernel_rfl)

theorem bugsOf_is (a:Option Addr) (n c:Nat) (ys:List Int) (m:Nat) (w:World) (h:Ints .i64 w a n c ys) (hn:n=3*m) (hm:m≤2000) :
  Calls Tryz.prog 105 #[.slice a n c] w fun e w'=>RowB e w' w.heap.size (triples ys)∧Below w.heap.size w w':=by
 obtain ⟨i0,hi,hz0,hz1,hz2⟩:=info_bug9
 have htl:(triples ys).length=m:=triples_length m ys (by rw [h.1,hn])
 have hyl:ys.length=3*m:=by rw [h.1,hn]
 have HG:Hid (∀ i,i<m→(triples ys).getD i (0,0,0)=(ys.getD (3*i) 0,ys.getD (3*i+1) 0,ys.getD (3*i+2) 0)):=fun i hi=>triples_get m ys i hyl hi
 go_enter Tryz.func105,Tryz.ntmps105
 go_wp2
 go_loopw [0,3] (fun s0 sv wr=>∃ (k ln:Nat) (a':Option Addr) (c':Nat),k≤m∧ln≤3*(m - k)∧3*(m - k)≤ln∧s0=.slice a' ln c'∧Ints .i64 w a' ln c' (ys.drop (3*k))∧wr.ownsRow w.heap.size 112 3 sv k (flat ((triples ys).take k))∧Below w.heap.size w wr) (fun s0 _ _=>slLen s0)
 case atStart=>exact ⟨0,n,a,c,by omega,by omega,by omega,rfl,by simpa using h,by simpa [flat] using World.ownsRow_nil _ _ _ _,Below.refl _ _⟩
 case round =>
  obtain ⟨k,ln,a',c',hk,hl1,hl2,rfl,hI,hr,hb⟩:=hrel
  by_cases hlt:k<m
  ·have hI0:=hI
   obtain ⟨e1,e2,e3,hcase⟩:=hI
   rcases hcase with h0 | ⟨b,off,rfl,hbl,hc⟩
   ·omega
   have d0:=hc 0 (by omega)
   have d1:=hc 1 (by omega)
   have d2:=hc 2 (by omega)
   rw [← hb.cell (p:=⟨b,_,none⟩) hbl] at d0 d1 d2
   obtain ⟨a2,hsl,hI2⟩:=slice_l hI0 (lo:=3) (by omega)
   have hgt:=HG.out k hlt
   have t0:(ys.drop (3*k)).getD 0 0=((triples ys).getD k (0,0,0)).1:=by rw [hgt];simp [List.getD]
   have t1:(ys.drop (3*k)).getD 1 0=((triples ys).getD k (0,0,0)).2.1:=by rw [hgt];simp [List.getD]
   have t2:(ys.drop (3*k)).getD 2 0=((triples ys).getD k (0,0,0)).2.2:=by rw [hgt];simp [List.getD]
   rw [t0] at d0
   rw [t1] at d1
   rw [t2] at d2
   have hst:Hid (flat ((triples ys).take (k+1))=flat ((triples ys).take k)++((triples ys).getD k (0,0,0)).cells):=flat_take_succ (by omega)
   have hI3:Ints .i64 w a2 (ln - 3) (c' - 3) (ys.drop (3*(k+1))):=by
    have:(ys.drop (3*k)).drop 3=ys.drop (3*(k+1)):=by rw [List.drop_drop];congr 1
    rw [← this];exact hI2
   have hsl3:∀ W,(Instr.slice 40 (.slice (some ⟨b,off,none⟩) ln c') (some (.int .i64 3)) none none).run Tryz.prog W=.ok (.slice a2 (ln - 3) (c' - 3)) W:=fun W=>hsl W
   clear hgt t0 t1 t2 hc hI0 hI2 hsl
   rw [Nat.add_zero] at d0
   generalize (triples ys).getD k (0,0,0)=x at d0 d1 d2 hst
   have hge:(3:Int)≤(ln:Int):=by omega
   have hp0:(0:Int)<(ln:Int):=by omega
   have hp1:(1:Int)<(ln:Int):=by omega
   have hp2:(2:Int)<(ln:Int):=by omega
   have hq0:0<ln:=by omega
   have hq1:1<ln:=by omega
   have hq2:2<ln:=by omega
   have hm1:k+1≤maxLen:=by unfold maxLen;omega
   have hm2:(k+1)*24≤140737488355328:=by omega
   have hm3:w.heap.size≤(wr.alloc (.cells #[.int .i64 x.1,.int .i64 x.2.1,.int .i64 x.2.2] 112)).drew.heap.size:=by have:=hb.size;simp;omega
   have hbis:=hb.size
   go_wp2_with fail
   go_region_held3 (fun w'=>w'.cell? ⟨b,off,none⟩=some (.int .i64 x.1)∧w'.cell? ⟨b,off+1,none⟩=some (.int .i64 x.2.1)∧w'.cell? ⟨b,off+2,none⟩=some (.int .i64 x.2.2)) (first | (exact ⟨d0,d1,d2⟩) | (exact ⟨q1,q2,q3⟩) | go_keep)
    (first | (refine step_append_mine rfl _ _ 72 rfl w.heap.size 112 i0 (.agg #[.int .i64 0,.int .i64 0,.int .i64 0]) 3 24 Tryz.underlying72 hi hz0 hz1 hz2 rfl (by decide) _ k (flat ((triples ys).take k)) rfl (own_dr (hr.alloc _)) ⟨wr.heap.size,0,none⟩ 1 1 [.int .i64 x.1,.int .i64 x.2.1,.int .i64 x.2.2] rfl rfl (three_dr wr _ _ _ _) (three_i64 _ _ _) hm1 hm2 hm3 ?_;intro v3 w3 hown3 hgrow3;have hB3:=below_app3 hbis hr hgrow3;have q1:=cells_lo3 hB3 hbl d0;have q2:=cells_lo3 hB3 hbl d1;have q3:=cells_lo3 hB3 hbl d2))
   have hr3:w3.ownsRow w.heap.size 112 3 v3 (k+1) (flat ((triples ys).take (k+1))):=by rw [hst.out];exact hown3
   have hb3:Below w.heap.size w w3:=hb.trans hB3
   clear hown3 hgrow3 hB3 q1 q2 q3 d0 d1 d2 hr hb hm1 hm2 hm3 hbis hst
   go_wp2
   go_roundw
   case rel=>exact ⟨k+1,ln - 3,a2,c' - 3,by omega,by omega,by omega,rfl,hI3,hr3,hb3⟩
   case measure=>simp [slLen];omega
  ·obtain rfl:k=m:=by omega
   have hge:¬ (3:Int)≤(ln:Int):=by omega
   rw [show (triples ys).take k=triples ys by rw [← htl,List.take_length]] at hr
   rw [← htl] at hr
   go_wp2
   go_ret
   exact ⟨RowB.mk9 hr,hb⟩


theorem l04Less_is (x y:I3) (w:World):Calls Tryz.prog 112 #[x.val,y.val] w fun e w'=>e=.returned (.bool (ltB x y))∧Below w.heap.size w w':=by
 obtain ⟨a0,a1,a2⟩:=x
 obtain ⟨b0,b1,b2⟩:=y
 unfold I3.val
 by_cases h0:a0=b0
 ·subst h0
  by_cases h1:a1=b1
  ·subst h1
   have e:ltB (a0,a1,a2) (a0,a1,b2)=decide (a2<b2):=by simp [ltB]
   rw [e]
   clear e
   go_enter Tryz.func112,Tryz.ntmps112
   go_wp2
   go_ret
   exact ⟨rfl,by go_grown⟩
  ·have e:ltB (a0,a1,a2) (a0,b1,b2)=decide (a1<b1):=by simp [ltB,h1]
   rw [e]
   clear e
   go_enter Tryz.func112,Tryz.ntmps112
   go_wp2
   go_ret
   exact ⟨rfl,by go_grown⟩
 ·have e:ltB (a0,a1,a2) (b0,b1,b2)=decide (a0<b0):=by simp [ltB,h0]
  rw [e]
  clear e
  go_enter Tryz.func112,Tryz.ntmps112
  go_wp2
  go_ret
  exact ⟨rfl,by go_grown⟩

def leadB:List I3→I3→Nat
 | [],_=>0
 | x::xs,b=>if ltB x b then leadB xs b+1 else 0
theorem leadB_le:∀ (xs:List I3) (b:I3),leadB xs b≤xs.length
 | [],_=>Nat.le_refl _
 | x::xs,b=>by
  have:=leadB_le xs b
  unfold leadB
  split<;>simp<;>omega
theorem leadB_yes:∀ (xs:List I3) (b:I3) (k:Nat),k<leadB xs b→ltB (xs.getD k (0,0,0)) b=true
 | [],_,k,h=>by simp [leadB] at h
 | x::xs,b,k,h=>by
  unfold leadB at h
  split at h
  ·rename_i hx
   match k,h with
   | 0,_=>simpa using hx
   | k+1,h=>rw [List.getD_cons_succ];exact leadB_yes xs b k (by omega)
  ·omega
theorem leadB_no:∀ (xs:List I3) (b:I3),leadB xs b<xs.length→ltB (xs.getD (leadB xs b) (0,0,0)) b=false
 | [],_,h=>by simp [leadB] at h
 | x::xs,b,h=>by
  unfold leadB at h ⊢
  split
  ·rename_i hx
   rw [if_pos hx] at h
   rw [List.getD_cons_succ]
   exact leadB_no xs b (by simpa using h)
  ·rename_i hx
   simpa using hx
theorem putB_lead:∀ (xs:List I3) (b:I3),putB xs b=if leadB xs b<xs.length∧xs.getD (leadB xs b) (0,0,0)=b then xs else (xs.take (leadB xs b)++[b])++xs.drop (leadB xs b)
 | [],b=>by simp [putB,leadB]
 | x::xs,b=>by
  have ih:=putB_lead xs b
  unfold putB leadB
  split
  ·rename_i hx
   rw [ih]
   simp only [List.getD_cons_succ,List.length_cons,Nat.add_lt_add_iff_right,List.take_succ_cons,List.drop_succ_cons,List.cons_append]
   split<;>simp
  ·simp only [List.getD_cons_zero,List.length_cons,List.take_zero,List.drop_zero,List.nil_append,Nat.zero_lt_succ,true_and]
   split<;>simp

theorem slice_h3 {w:World} {b off len cap hi:Nat} {xs:List I3} (h:Instrs w (some ⟨b,off,none⟩) len cap xs) (h2:hi≤len) :
  (∀ W,(Instr.slice 72 (.slice (some ⟨b,off,none⟩) len cap) none (some (.int .i64 (hi:Int))) none).run Tryz.prog W=.ok (.slice (some ⟨b,off,none⟩) hi cap) W)∧Instrs w (some ⟨b,off,none⟩) hi cap (xs.take hi):=by
 obtain ⟨hl,hlc,hcm,hf,hcase⟩:=h
 have hhc:(hi:Int)≤(cap:Int):=by omega
 refine ⟨fun W=>?_,by rw [List.length_take];omega,by omega,by omega,fun x hx=>hf x (List.mem_of_mem_take hx),?_⟩
 ·go_simp
 ·rcases hcase with h0 | ⟨b',off',he,hb,hc⟩
  ·exact .inl (by omega)
  ·cases he
   refine .inr ⟨b,off,rfl,hb,fun t ht=>?_⟩
   have:=hc t (by omega)
   have e:(xs.take hi).getD t (0,0,0)=xs.getD t (0,0,0):=by simp [List.getD,List.getElem?_take,ht]
   rw [e]
   exact this
theorem slice_l3 {w:World} {b off len cap lo:Nat} {xs:List I3} (h:Instrs w (some ⟨b,off,none⟩) len cap xs) (h1:lo≤len) :
  ∃ o2,(∀ W,(Instr.slice 72 (.slice (some ⟨b,off,none⟩) len cap) (some (.int .i64 (lo:Int))) none none).run Tryz.prog W=.ok (.slice (some ⟨b,o2,none⟩) (len - lo) (cap - lo)) W)∧Instrs w (some ⟨b,o2,none⟩) (len - lo) (cap - lo) (xs.drop lo):=by
 obtain ⟨hl,hlc,hcm,hf,hcase⟩:=h
 have hlh:(lo:Int)≤(len:Int):=by omega
 by_cases hz:cap - lo=0
 ·refine ⟨off,fun W=>?_,by rw [List.length_drop];omega,by omega,by omega,fun x hx=>hf x (List.mem_of_mem_drop hx),.inl (by omega)⟩
  go_simp
  omega
 ·refine ⟨off+lo*3,fun W=>?_,by rw [List.length_drop];omega,by omega,by omega,fun x hx=>hf x (List.mem_of_mem_drop hx),?_⟩
  ·go_simp
   omega
  ·rcases hcase with h0 | ⟨b',off',he,hb,hc⟩
   ·exact .inl (by omega)
   ·cases he
    refine .inr ⟨b,off+lo*3,rfl,hb,fun t ht=>?_⟩
    have:=hc (lo+t) (by omega)
    have e:(xs.drop lo).getD t (0,0,0)=xs.getD (lo+t) (0,0,0):=by simp [List.getD]
    rw [e,show off+lo*3+t*3=off+(lo+t)*3 by omega]
    exact this
theorem instrs_news {w:World} {b off len cap:Nat} {xs:List I3} (h:Instrs w (some ⟨b,off,none⟩) len cap xs):∀ j u,(flat xs)[j]?=some u→w.cell? ((⟨b,off,none⟩:Addr).add j)=some u:=by
 intro j u hj
 obtain ⟨hl,_,_,_,hcase⟩:=h
 have hjl:j<xs.length*3:=by
  have:=(List.getElem?_eq_some_iff.1 hj).1
  rwa [flat_length] at this
 have hA:(⟨b,off,none⟩:Addr).add j=⟨b,off+j,none⟩:=by unfold Addr.add;split<;>simp_all
 rw [hA]
 rcases hcase with h0 | ⟨b',off',he,hb,hc⟩
 ·omega
 ·cases he
  have hq:j / 3<xs.length:=by omega
  obtain ⟨f0,f1,f2⟩:=flat_at hq
  obtain ⟨c0,c1,c2⟩:=hc (j / 3) (by omega)
  have hr:j % 3=0∨j % 3=1∨j % 3=2:=by omega
  rcases hr with hr | hr | hr
  ·have e:j / 3*3=j:=by omega
   rw [e] at f0
   rw [f0] at hj
   cases hj
   rw [show off+j=off+j / 3*3 by omega]
   exact c0
  ·have e:j / 3*3+1=j:=by omega
   rw [e] at f1
   rw [f1] at hj
   cases hj
   rw [show off+j=off+j / 3*3+1 by omega]
   exact c1
  ·have e:j / 3*3+2=j:=by omega
   rw [e] at f2
   rw [f2] at hj
   cases hj
   rw [show off+j=off+j / 3*3+2 by omega]
   exact c2
theorem flat_one (xs:List I3):∀ u ∈ flat xs,u.oneCell'=true:=by
 intro u hu
 obtain ⟨x,hx,hu⟩:=List.mem_flatMap.1 hu
 unfold I3.cells at hu
 simp at hu
 rcases hu with rfl | rfl | rfl<;>rfl
theorem flat_append (xs ys:List I3):flat (xs++ys)=flat xs++flat ys:=by simp [flat]


theorem comOk_no {t:ByteArray} (h:NoList t):¬ ComOk t:=fun ⟨zs,hL,_⟩=>h zs hL


theorem appendNumber_any (base m:Nat) (v:Value) (xs:List Int) (n:Nat) (w:World) (hn:n≤999999999) (hown:w.ownsRow base 5 1 v m (u8s xs)) (hb:base≤w.heap.size) (hm:m≤1099511627776) :
  Calls Tryz.prog 68 #[v,.int .i64 n] w fun e w'=>∃ v',e=.returned v'∧w'.ownsRow base 5 1 v' (m+(pack n).length) (u8s (xs++pack n))∧Below base w w':=by
 obtain ⟨i0,hi,hz0,hz1,hz2⟩:=info_parts info_u8
 go_enter Tryz.func68,Tryz.ntmps68
 go_wp2
 go_loopw [0,1] (fun sv si wr=>∃ (k:Nat) (ys:List Int),k≤999999999∧si=.int .i64 k∧wr.ownsRow base 5 1 sv (m+ys.length) (u8s (xs++ys))∧Hid (ys++pack k=pack n)∧Below base w wr) (fun _ si _=>(intOf si).toNat)
 case atStart=>exact ⟨n,[],hn,rfl,by simpa using hown,by simp [Hid],Below.refl _ _⟩
 case round =>
  obtain ⟨k,ys,hk,rfl,ho,HY,hbel⟩:=hrel
  have hlen:ys.length≤4:=by
   have h1:=congrArg List.length HY.out
   have h2:=pack_len k
   have h3:=pack_len n
   simp at h1;omega
  have hbw:base≤wr.heap.size:=by have:=hbel.size;omega
  by_cases hlt:128≤k
  ·go_wp2_with (at_builtin;refine wpList_append_own _ rfl _ _ 22 rfl base 5 i0 (.int .u8 0) 1 1 Tryz.underlying22 hi hz0 hz1 hz2 rfl (by decide) _ _ _ rfl (ho.alloc _) ⟨wr.heap.size,0,none⟩ 1 1 [.int .u8 ((k:Int) % 128+128)] rfl rfl (cell_one_new _ _ _) (one_u8 _) ?c3 ?c4 ?c5 ?_)
   case c3=>unfold maxLen;omega
   case c4=>omega
   case c5=>simp;omega
   intro v' w1 hown' hgrow _
   have R:w1.ownsRow base 5 1 v' (m+(ys++[(k:Int) % 128+128]).length) (u8s (xs++(ys++[(k:Int) % 128+128]))):=by simpa [Nat.add_assoc] using hown'
   have hb1:Below base w w1:=(hbel.alloc hbw _).grown hgrow (by simp;omega) (fun j hj=>(ho.lt _ hj).1)
   clear hown' hgrow ho
   go_wp2
   go_roundw
   case rel=>exact ⟨k / 128,ys++[(k:Int) % 128+128],by omega,by go_num,R,by rw [Hid,List.append_assoc,List.singleton_append,← pack_step hlt (by omega)];exact HY.out,hb1⟩
   case measure=>simp [intOf];omega
  ·go_wp2_with (at_builtin;refine wpList_append_own _ rfl _ _ 22 rfl base 5 i0 (.int .u8 0) 1 1 Tryz.underlying22 hi hz0 hz1 hz2 rfl (by decide) _ _ _ rfl (ho.alloc _) ⟨wr.heap.size,0,none⟩ 1 1 [.int .u8 (k:Int)] rfl rfl (cell_one_new _ _ _) (one_u8 _) ?d3 ?d4 ?d5 ?_)
   case d3=>unfold maxLen;omega
   case d4=>omega
   case d5=>simp;omega
   intro v' w1 hown' hgrow _
   have hb1:Below base w w1:=(hbel.alloc hbw _).grown hgrow (by simp;omega) (fun j hj=>(ho.lt _ hj).1)
   have hp:pack n=ys++[(k:Int)]:=by rw [← HY.out,pack_small (by omega)]
   have R:w1.ownsRow base 5 1 v' (m+(pack n).length) (u8s (xs++pack n)):=by rw [hp];simpa [Nat.add_assoc] using hown'
   clear hown' hgrow ho hp HY
   go_wp2
   go_ret
   exact ⟨v',rfl,R,hb1⟩


theorem l01Number_any (n:Nat) (w:World) (hn:n≤999999999) :
  Calls Tryz.prog 114 #[.int .i64 n] w fun e w'=>e=.returned (.string (strOfNums (pack n)))∧Below w.heap.size w w':=by
 obtain ⟨i0,hi,hz0,hz1,hz2⟩:=info_parts info_u8
 go_enter Tryz.func114,Tryz.ntmps114
 go_wp2
 go_loopw [0,3] (fun si sv wr=>∃ (k:Nat) (ys:List Int),k≤999999999∧si=.int .i64 k∧wr.ownsRow w.heap.size 5 1 sv ys.length (u8s ys)∧Hid (ys++pack k=pack n)∧Below w.heap.size w wr) (fun si _ _=>(intOf si).toNat)
 case atStart=>exact ⟨n,[],hn,rfl,World.ownsRow_lit w #[] 0 (Nat.le_refl _) (by unfold maxLen;omega) rfl,by simp [Hid],(Below.refl _ _).alloc (Nat.le_refl _) _⟩
 case round =>
  obtain ⟨k,ys,hk,rfl,ho,HY,hbel⟩:=hrel
  have hlen:ys.length≤4:=by
   have h1:=congrArg List.length HY.out
   have h2:=pack_len k
   have h3:=pack_len n
   simp at h1;omega
  have hbw:w.heap.size≤wr.heap.size:=hbel.size
  by_cases hlt:128≤k
  ·go_wp2_with (at_builtin;refine wpList_append_own _ rfl _ _ 22 rfl w.heap.size 5 i0 (.int .u8 0) 1 1 Tryz.underlying22 hi hz0 hz1 hz2 rfl (by decide) _ _ _ rfl (ho.alloc _) ⟨wr.heap.size,0,none⟩ 1 1 [.int .u8 (128+(k:Int) % 128)] rfl rfl (cell_one_new _ _ _) (one_u8 _) ?c3 ?c4 ?c5 ?_)
   case c3=>unfold maxLen;omega
   case c4=>omega
   case c5=>simp;omega
   intro v' w1 hown' hgrow _
   have hcomm:(128+(k:Int) % 128)=(k:Int) % 128+128:=by omega
   rw [hcomm] at hown'
   clear hcomm
   have R:w1.ownsRow w.heap.size 5 1 v' (ys++[(k:Int) % 128+128]).length (u8s (ys++[(k:Int) % 128+128])):=by simpa [Nat.add_assoc] using hown'
   have hb1:Below w.heap.size w w1:=(hbel.alloc hbw _).grown hgrow (by simp;omega) (fun j hj=>(ho.lt _ hj).1)
   clear hown' hgrow ho
   go_wp2
   go_roundw
   case rel=>exact ⟨k / 128,ys++[(k:Int) % 128+128],by omega,by go_num,R,by rw [Hid,List.append_assoc,List.singleton_append,← pack_step hlt (by omega)];exact HY.out,hb1⟩
   case measure=>simp [intOf];omega
  ·go_wp2_with (at_builtin;refine wpList_append_own _ rfl _ _ 22 rfl w.heap.size 5 i0 (.int .u8 0) 1 1 Tryz.underlying22 hi hz0 hz1 hz2 rfl (by decide) _ _ _ rfl (ho.alloc _) ⟨wr.heap.size,0,none⟩ 1 1 [.int .u8 (k:Int)] rfl rfl (cell_one_new _ _ _) (one_u8 _) ?d3 ?d4 ?d5 ?_)
   case d3=>unfold maxLen;omega
   case d4=>omega
   case d5=>simp;omega
   intro v' w1 hown' hgrow _
   have hb1:Below w.heap.size w w1:=(hbel.alloc hbw _).grown hgrow (by simp;omega) (fun j hj=>(ho.lt _ hj).1)
   have hp:pack n=ys++[(k:Int)]:=by rw [← HY.out,pack_small (by omega)]
   have R:w1.ownsRow w.heap.size 5 1 v' (ys.length+1) (u8s (pack n)):=by rw [hp];simpa [Nat.add_assoc] using hown'
   have hcv:=conv_owned R
   clear hown' hgrow ho hp HY R
   go_wp2
   go_ret
   exact ⟨rfl,hb1⟩

end Go.Proofs.YtdopgkbegjfhjaaGreatDoor
