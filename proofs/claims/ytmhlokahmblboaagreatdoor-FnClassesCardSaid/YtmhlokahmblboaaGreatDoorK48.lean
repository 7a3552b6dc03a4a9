/-
  Joined: CntS.
-/
import Derived.Test.YtmhlokahmblboaaGreatDoorRows
import Derived.ProofKit
import Derived.OpenShut
import Derived.LaidMore
import Derived.MakeChecks
import Derived.Stop.LaidErr
import Derived.Test.YtmhlokahmblboaaGreatDoorK45

namespace Go.Proofs.YtmhlokahmblboaaGreatDoor
set_option maxRecDepth 100000
set_option maxHeartbeats 16000000
open Go.RowKit
set_option linter.unusedVariables false
set_option linter.unusedSimpArgs false

theorem GN (b:Bool) (w:World):Calls Tryz.prog 78 #[.bool b] w fun e w'=>e=.returned (.int .i64 (if b then 1 else 0))∧w=w':=by
 cases b
 ·go_enter Tryz.func78,Tryz.ntmps78
  go_wp2
  go_ret
  exact ⟨rfl,rfl⟩
 go_enter Tryz.func78,Tryz.ntmps78
 go_wp2
 go_ret
 exact ⟨rfl,rfl⟩
def CtS (rows:List (List I3)) (S:List (Zp V4)) (sum:Int) (i:Nat) (cts:List Int):Prop:=cts.length=S.length∧∀ q r,S[q]?=some r→(sum<Si r.1∨(Si r.1=sum∧q<i))→cts.getD q 0=(Z7 rows r.1:Int)
theorem CtS.start {rows:List (List I3)} {S:List (Zp V4)} (hS:YJ S):CtS rows S 18 0 (List.replicate S.length 0):=⟨by simp,fun q r hr h=>by
 have:=(U9 (hS r (List.mem_of_getElem? hr))).2
 omega⟩
theorem CtS.skip {rows:List (List I3)} {S:List (Zp V4)} {sum:Int} {i:Nat} {cts:List Int} (h:CtS rows S sum i cts) {r:Zp V4} (hr:S[i]?=some r) (hn:Si r.1≠sum):CtS rows S sum (i+1) cts:=⟨h.1,fun q r' hq hc=>by
 refine h.2 q r' hq (hc.imp id fun ⟨h1,h2⟩=>⟨h1,?_⟩)
 by_cases e:q=i
 ·subst e
  rw [hr] at hq
  cases hq
  exact absurd h1 hn
 omega⟩
theorem CtS.put {rows:List (List I3)} {S:List (Zp V4)} {sum:Int} {i:Nat} {cts:List Int} (h:CtS rows S sum i cts) {r:Zp V4} (hr:S[i]?=some r):CtS rows S sum (i+1) (cts.set i (Z7 rows r.1:Int)):=⟨by simp [h.1],fun q r' hq hc=>by
 have hl:i<S.length:=(List.getElem?_eq_some_iff.1 hr).1
 by_cases e:i=q
 ·subst e
  rw [hr] at hq
  cases hq
  simp [List.getD,h.1,hl]
 have:=h.2 q r' hq (hc.imp id fun ⟨h1,h2⟩=>⟨h1,by omega⟩)
 simp only [List.getD,List.getElem?_set_ne e] at this ⊢
 exact this⟩
theorem CtS.next {rows:List (List I3)} {S:List (Zp V4)} {sum:Int} {i:Nat} {cts:List Int} (h:CtS rows S sum i cts) (hi:S.length≤i):CtS rows S (sum - 1) 0 cts:=⟨h.1,fun q r hq hc=>by
 have hl:q<S.length:=(List.getElem?_eq_some_iff.1 hq).1
 refine h.2 q r hq ?_
 rcases hc with hc | hc
 ·by_cases e:Si r.1=sum
  ·exact .inr ⟨e,by omega⟩
  exact .inl (by omega)
 omega⟩
def Xj (rows:List (List I3)) (m:V4) (j:Nat):Nat:=(if Zj rows m 3=[] then 1 else 0)+(((Zj rows m 3).take j).map fun k=>Z7 rows (goM rows m k).1).sum
theorem RV {rows:List (List I3)} {m:V4} {j:Nat} {k:Int} (h:(Zj rows m 3)[j]?=some k):Xj rows m (j+1)=Xj rows m j+Z7 rows (goM rows m k).1:=by
 unfold Xj
 rw [List.take_add_one,h]
 simp
 omega
theorem KX {rows:List (List I3)} (hp:Zn rows=true) {m:V4} (hs:Zk m=true) {j:Nat} (hj:(Zj rows m 3).length≤j):T0 (Xj rows m j)=Z7 rows m:=by
 unfold Xj
 rw [List.take_of_length_le hj,Rs hp hs]
 by_cases e:Zj rows m 3=[]
 ·rw [if_pos e,if_pos e,e]
  rfl
 rw [if_neg e,if_neg e,Nat.zero_add]
theorem RU {rows:List (List I3)} (hp:Zn rows=true) {m:V4} (hs:Zk m=true):∀ j,Xj rows m j≤1+1000000*j
 | 0=>by unfold Xj;simp;split<;>omega
 | j+1=>by
  have ih:=RU hp hs j
  cases h:(Zj rows m 3)[j]? with
  | none =>
   have e:Xj rows m (j+1)=Xj rows m j:=by unfold Xj;rw [List.take_add_one,h];simp
   omega
  | some k =>
   rw [RV h]
   have:=(WE hp _ _ (ZV hp hs (Ya (List.mem_of_getElem? h))) (Nat.le_refl _)).2
   omega
theorem Nj {ts:List ByteArray} {t:ByteArray}:∀ n,n≤ts.length→t ∈ ts.take n→∃ q,q<n∧Wm ts t n=(q:Int)∧ts[q]?=some t
 | 0,_,h=>by simp at h
 | n+1,hn,h=>by
  unfold Wm
  by_cases e:ts.getD n ByteArray.empty=t
  ·rw [if_pos e]
   refine ⟨n,by omega,rfl,?_⟩
   rw [← e,List.getD,List.getElem?_eq_getElem (show n<ts.length by omega)]
   rfl
  rw [if_neg e]
  have h2:t ∈ ts.take n:=by
   rw [List.take_add_one,List.mem_append] at h
   rcases h with h | h
   ·exact h
   rw [List.getElem?_eq_getElem (show n<ts.length by omega)] at h
   simp at h
   exact absurd (by rw [List.getD,List.getElem?_eq_getElem (show n<ts.length by omega)];exact h.symm) e
  obtain ⟨q,h3,h4,h5⟩:=Nj n (by omega) h2
  exact ⟨q,by omega,h4,h5⟩
theorem My {S:List (Zp V4)} (hS:YJ S) {x:V4} (hx:Zk x=true) (hm:x ∈ S.map (·.1)):∃ q r,q<S.length∧Wm (Zy S) (Ye x) (Zy S).length=(q:Int)∧S[q]?=some r∧r.1=x:=by
 have h1:Ye x ∈ Zy S:=by
  obtain ⟨r,hr,rfl⟩:=List.mem_map.1 hm
  exact List.mem_map.2 ⟨r,hr,rfl⟩
 obtain ⟨q,h2,h3,h4⟩:=Nj (Zy S).length (Nat.le_refl _) (by rw [List.take_length];exact h1)
 unfold Zy at h4
 rw [List.getElem?_map] at h4
 obtain ⟨r,hr,e⟩:=Option.map_eq_some_iff.1 h4
 exact ⟨q,r,by rw [Xe] at h2;exact h2,h3,hr,RK (hS r (List.mem_of_getElem? hr)) hx e⟩
structure OnC (w wk wr:World) (rows:List (List I3)) (gc n:Nat) (S:List (Zp V4)) (sum:Int) (i:Nat) (cts:List Int):Prop where
 ow:ZG wr w.heap.size (some ⟨gc,0,none⟩,n,n) cts
 ct:CtS rows S sum i cts
 gr:wk.grownBy wr (some gc)
 bw:Below w.heap.size w wr

theorem Sq (a:Option Addr) (len cap:Nat) (rows:List (List I3)) (w:World) (hC:XL w a len cap rows) :
  Calls Tryz.prog 32 #[.agg #[.slice a len cap]] w fun e w'=>e=.returned (.tuple #[.int .i64 (Pv rows),.int .i64 (Xi rows)])∧Below w.heap.size w w':=by
 have kO:=fun (W:World) (b:Below w.heap.size w W)=>Sr a len cap rows W (hC.below b)
 have bw:Below w.heap.size w (w.alloc (.cells #[.slice a len cap] 25)):=by go_grown
 have pP:Blk (w.alloc (.cells #[.slice a len cap] 25)) w.heap.size 25 [.slice a len cap]:=Zo _ _ _ rfl
 obtain ⟨rv,hrv⟩:∃ rv,rv=Pv rows:=⟨_,rfl⟩
 obtain ⟨rc,hrc⟩:∃ rc,rc=Xi rows:=⟨_,rfl⟩
 rw [← hrv,← hrc]
 have HV:Hid (rv=if Xi rows=0 then (Z7 rows Zl:Int) else 0):=hrv
 have HC:Hid (rc=Xi rows):=hrc
 clear hrv hrc
 obtain ⟨i0,hi9,hz0,hz1,hz2⟩:=info_parts Xc
 go_enter Tryz.func32,Tryz.ntmps32
 go_wp2_with fail
 generalize (w.alloc (.cells #[.slice a len cap] 25))=U at *
 have kOx:=kO U bw
 clear kO
 go_wp2_with (refine Zc rfl 25 _ rfl w.heap.size rfl pP _ Tryz.underlying25 rfl (by kernel_rfl) ?_)
 refine kOx.mono ?_
 rintro e w1 ⟨rfl,hb⟩
 replace bw:=Zb bw hb
 replace pP:=pP.below hb
 clear hb kOx
 cases hp:Zn rows
 ·have e1:Xi rows=1:=by unfold Xi;rw [hp];rfl
  have HE:Hid (rv=0∧rc=1):=⟨by rw [HV.out,e1];rfl,by rw [HC.out,e1]⟩
  clear e1 HV HC
  go_wp2
  refine bodyPost_ret (by simp [results,Tryz.results32,go_sem];try rfl) rfl ?_
  exact ⟨by rw [HE.out.1,HE.out.2],bw⟩
 obtain ⟨hl3,cs,hR⟩:=hC.rowsAt hp
 subst hl3
 have kS:=PK (cap:=cap) (hR.below bw) hp
 go_wp2_with (refine Zc rfl 25 _ rfl w.heap.size rfl pP _ Tryz.underlying25 rfl (by kernel_rfl) ?_)
 refine kS.mono ?_
 rintro e w2 ⟨⟨v1,v2,v3,ts,fs,bs,rfl,hT,hF⟩,hb⟩
 have hbB:=bw.size
 replace bw:=Zb bw hb
 replace pP:=pP.below hb
 clear hb kS
 by_cases hf:(Yd rows).length≤2000
 ·obtain ⟨rfl,_,_⟩:=hF hf
  have hd:decide ((Yd rows).length≤2000)=true:=decide_eq_true hf
  have e1:Xi rows=0:=by unfold Xi;rw [hp,if_pos rfl,if_pos hf]
  have HE:Hid (rv=(Z7 rows Zl:Int)∧rc=0):=⟨by rw [HV.out,if_pos e1],by rw [HC.out,e1]⟩
  have hpos:0<(Yd rows).length:=(List.getElem?_eq_some_iff.1 (VB rows)).1
  have hSh:=Ts hp
  have hCl:=Tr hf
  have HHd:Hid ((Yd rows)[0]?=some (Zl,0,0)):=VB rows
  have hks:=XF hT.ks hbB
  obtain ⟨gk,ck,rfl,hgc,_⟩:=XG hks (by rw [Xe];exact hpos)
  clear hF hT e1 HV HC hgc
  generalize Yd rows=S at *
  have KL:Hid ((Zy S).length=S.length):=Xe S
  obtain ⟨n,hn⟩:∃ n,n=(Zy S).length:=⟨_,rfl⟩
  rw [← hn] at hks ⊢
  have hnS:n=S.length:=by rw [hn];exact KL.out
  have HNK:Hid (n=(Zy S).length):=hn
  have HNS:Hid (n=S.length):=hnS
  have hn2:n≤2000:=by omega
  have hn0:0<n:=by omega
  clear hn hnS hf hpos KL
  have hbs:=bw.size
  go_wp2_with (at_make;refine wpList_make_full _ rfl _ _ 72 rfl w.heap.size 3 i0 (.int .i64 0) 1 Tryz.underlying72 hi9 hz0 hz1 _ _ _ _ n rfl rfl (by omega) (by omega) ?b2 ?b3 (by first | exact hbs | exact Nat.le_refl _) ?_)
  case b2=>first | omega | (rw [hz2];omega)
  case b3=>unfold maxLen;omega
  intro wk hown hgrow
  rw [QQ] at hown
  have b5:Below w2.heap.size w2 wk:=⟨hgrow.os,hgrow.tape,hgrow.output,hgrow.size,fun k hk=>hgrow.block k hk (by simp)⟩
  have st:OnC w wk wk rows w2.heap.size n S 18 0 (List.replicate n 0):=⟨hown,by rw [HNS.out];exact CtS.start hSh,World.grownBy.refl _ _,Zb bw b5⟩
  have pP2:=pP
  have hks2:=hks
  replace pP:=pP.below b5
  replace hks:=Ze hks b5
  have hgcw:w.heap.size≤w2.heap.size:=hbs
  clear hown hgrow b5 bw hbs
  have hgkc:gk≠w2.heap.size:=by have:=(ZM hks2 (g:=gk) rfl).2;omega
  have hPc:w.heap.size≠w2.heap.size:=by have:=pP2.lt;omega
  clear hks2 pP2
  generalize w2.heap.size=gc at *
  go_wp2_with fail
  go_loopw [9] (fun s9 wr=>∃ (sm:Nat) (cts:List Int),s9=.int .i64 ((sm:Int) - 1)∧sm≤19∧OnC w wk wr rows gc n S ((sm:Int) - 1) 0 cts) (fun s9 _=>(intOf s9+1).toNat)
  case atStart=>exact ⟨19,_,rfl,by omega,st⟩
  case round =>
   clear st
   obtain ⟨sm,cts,rfl,hsm,hO⟩:=hrel
   rcases Nat.eq_zero_or_pos sm with rfl | hpos
   ·have c0:=hO.ow.at9 hn0
    have e0:cts.getD 0 0=(Z7 rows Zl:Int):=hO.ct.2 0 _ HHd.out (.inl (by have:=(U9 (hSh _ (List.mem_of_getElem? HHd.out))).1;simp only at this ⊢;omega))
    rw [e0] at c0
    have bw:=hO.bw
    have hn0':(0:Int)<(n:Int):=by omega
    clear hO e0 hks pP
    go_wp2
    refine bodyPost_ret (by simp [results,Tryz.results32,go_sem];try rfl) rfl ?_
    exact ⟨by rw [HE.out.1,HE.out.2],bw⟩
   have hs0:(0:Int)≤(sm:Int) - 1:=by omega
   obtain ⟨sum,hsum⟩:∃ sum:Int,sum=(sm:Int) - 1:=⟨_,rfl⟩
   rw [← hsum] at hO hs0 ⊢
   have hsum18:sum≤18:=by omega
   have HSM:Hid (sum=(sm:Int) - 1):=hsum
   clear hsum
   go_wp2_with fail
   go_loopw [10] (fun s10 wr=>∃ (i:Nat) (cts:List Int),s10=.int .i64 i∧i≤n∧OnC w wk wr rows gc n S sum i cts) (fun s10 _=>n - (intOf s10).toNat)
   case atStart=>exact ⟨0,_,rfl,Nat.zero_le _,hO⟩
   case round =>
    clear hO cts
    obtain ⟨i,cts,rfl,hin,hO⟩:=hrel
    by_cases hlt:i<n
    ·have hiS:i<S.length:=by rw [← HNS.out];exact hlt
     obtain ⟨r,hr⟩:∃ r,S[i]?=some r:=⟨S[i],List.getElem?_eq_getElem hiS⟩
     have hs:Zk r.1=true:=hSh _ (List.mem_of_getElem? hr)
     have hkm:(Zy S)[i]?=some (Ye r.1):=by unfold Zy;rw [List.getElem?_map,hr];rfl
     have hkr:wr.ownsRow w.heap.size 9 1 (.slice (some ⟨gk,0,none⟩) n ck) n ((Zy S).map Value.string):=hks.kept hO.gr (.inr (fun e=>hgkc (by simpa [Value.ownBlock] using e)))
     have pPr:=pP.kept hO.gr (fun e=>hPc (by cases e;rfl))
     have hc:=Pc hkr hlt hkm
     have hlt1:(i:Int)<(n:Int):=by omega
     have hi0:(0:Int)≤(i:Int):=by omega
     have kO:=RM hs wr
     have bw:=hO.bw
     have how:=hO.ow
     clear hkm hiS
     go_wp2_with fail
     refine kO.mono ?_
     rintro e w3 ⟨⟨⟨⟨t0a,t0n,t0c⟩,⟨t1a,t1n,t1c⟩,⟨t2a,t2n,t2c⟩,⟨t3a,t3n,t3c⟩⟩,rfl,hV⟩,hb⟩
     have ut:S4.val ((t0a,t0n,t0c),(t1a,t1n,t1c),(t2a,t2n,t2c),(t3a,t3n,t3c))=.agg #[.slice t0a t0n t0c,.slice t1a t1n t1c,.slice t2a t2n t2c,.slice t3a t3n t3c]:=rfl
     rw [ut]
     replace bw:=Zb bw hb
     replace pPr:=pPr.below hb
     replace hkr:=Ze hkr hb
     replace how:=how.below hb
     have hbt:=hb
     clear hb kO hc
     have pN:=Blk.new w3 74 [.slice none 0 0,.slice none 0 0,.slice none 0 0,.slice none 0 0]
     have hbN:Below w3.heap.size w3 (w3.alloc (.cells #[.slice none 0 0,.slice none 0 0,.slice none 0 0,.slice none 0 0] 74)):=by go_grown
     go_wp2_with (refine Zd rfl 74 _ _ rfl w3.heap.size [.slice t0a t0n t0c,.slice t1a t1n t1c,.slice t2a t2n t2c,.slice t3a t3n t3c] rfl rfl pN (by kernel_rfl) rfl rfl ?_)
     intro w4 pS4 g4
     have pS:=pS4.out
     have hb4:Below w3.heap.size w3 w4:=hbN.grown g4 hbN.size (fun k e=>by cases e;exact Nat.le_refl _)
     replace bw:=Zb bw hb4
     replace pPr:=pPr.below hb4
     replace hkr:=Ze hkr hb4
     replace how:=how.below hb4
     replace hV:=hV.below hb4
     replace hbt:=Zb hbt hb4
     clear pS4 g4 hbN pN hb4
     generalize w3.heap.size=X at *
     have fm:=(ZO hs).1
     have hM:=hV.mem fm
     obtain ⟨l0,_⟩:=ZT hs
     have hpb:=U9 hs
     have hP0:=Xn (Yi hs).1 (by decide) 0
     have hP1:=Xn (Yi hs).1 (by decide) 1
     have hP2:=Xn (Yi hs).1 (by decide) 2
     obtain ⟨pg,pc,e9,_,_⟩:=ZG.some9 hV.1.1 l0 (by decide)
     cases e9
     have q0:=hV.1.1.at9 (j:=0) (by decide)
     have q1:=hV.1.1.at9 (j:=1) (by decide)
     have q2:=hV.1.1.at9 (j:=2) (by decide)
     have cS0:w4.cell? ⟨X,0,none⟩=some (.slice (some ⟨pg,0,none⟩) 3 t0c):=by simpa using pS.cell 0
     have hpn:Si r.1=r.1.1.getD 0 0+r.1.1.getD 1 0+r.1.1.getD 2 0:=rfl
     have HPN:Hid (Si r.1=r.1.1.getD 0 0+r.1.1.getD 1 0+r.1.1.getD 2 0):=hpn
     clear hpn
     generalize r.1.1.getD 0 0=y0 at *
     generalize r.1.1.getD 1 0=y1 at *
     generalize r.1.1.getD 2 0=y2 at *
     have hw1:IntKind.i64.wrap (y0+y1)=y0+y1:=by rw [IntKind.wrap_i64];omega
     have hw2:IntKind.i64.wrap (y0+y1+y2)=y0+y1+y2:=by rw [IntKind.wrap_i64];omega
     by_cases heq:Si r.1=sum
     ·have hne:((y0+y1+y2) != sum)=false:=by rw [bne_eq_false_iff_eq,← HPN.out];exact heq
      have hgo:=hO.gr
      have hct:=hO.ct
      clear hO
      go_wp2_with fail
      go_quiet (fail)
      have hdq:Below w4.heap.size w4 (w4.drewN nq):=Z3 _
      replace bw:=Zb bw hdq
      replace pPr:=pPr.below hdq
      replace hkr:=Ze hkr hdq
      replace how:=how.below hdq
      replace hV:=hV.below hdq
      replace pS:=pS.below hdq
      replace hbt:=Zb hbt hdq
      clear hdq q0 q1 q2 cS0 hM hw1 hw2 hne
      generalize w4.drewN nq=w5 at *
      have kE:=Xw a 3 cap rows ((some ⟨pg,0,none⟩,3,t0c),(t1a,t1n,t1c),(t2a,t2n,t2c),(t3a,t3n,t3c)) r.1 cs w5 rfl (hR.below bw) (hV.mem fm) hp hs
      have ut:S4.val ((some ⟨pg,0,none⟩,3,t0c),(t1a,t1n,t1c),(t2a,t2n,t2c),(t3a,t3n,t3c))=.agg #[.slice (some ⟨pg,0,none⟩) 3 t0c,.slice t1a t1n t1c,.slice t2a t2n t2c,.slice t3a t3n t3c]:=rfl
      rw [ut] at kE
      go_wp2_with (first | refine Zc rfl 25 _ rfl w.heap.size rfl pPr _ Tryz.underlying25 rfl (by kernel_rfl) ?_ | refine Zc rfl 74 _ rfl X rfl pS _ Tryz.underlying74 rfl (by kernel_rfl) ?_)
      refine kE.mono ?_
      rintro e w6 ⟨⟨⟨la,ln,lc⟩,rfl,hL⟩,hb⟩
      replace bw:=Zb bw hb
      replace pPr:=pPr.below hb
      replace hkr:=Ze hkr hb
      replace how:=how.below hb
      replace hV:=hV.below hb
      replace pS:=pS.below hb
      replace hbt:=Zb hbt hb
      clear hb kE
      have hLn:(Zj rows r.1 3).length=ln:=by have:=hL.1;simpa using this
      have hl3:=YD rows r.1 3
      have kB:=GN (decide ((ln:Int)=0)) w6
      have hbq:((ln:Int) == 0)=decide ((ln:Int)=0):=rfl
      have hb0:(if decide ((ln:Int)=0)=true then (1:Int) else 0)=(Xj rows r.1 0:Int):=by
       unfold Xj
       by_cases e:Zj rows r.1 3=[]
       ·have:ln=0:=by rw [← hLn,e];rfl
        subst this
        simp [e]
       have:0<ln:=by rw [← hLn];exact List.length_pos_iff.2 e
       simp [e]
       omega
      rw [hb0] at kB
      clear hb0
      generalize decide ((ln:Int)=0)=bb at *
      go_wp2_with fail
      refine kB.mono ?_
      rintro e w7 ⟨rfl,rfl⟩
      clear kB hbq
      have st:Below w6.heap.size w6 w6:=Below.refl _ _
      go_wp2_with fail
      go_loopw [14,15] (fun s14 s15 wq=>∃ j:Nat,s15=.int .i64 j∧j≤ln∧s14=.int .i64 (Xj rows r.1 j:Int)∧Below w6.heap.size w6 wq) (fun _ s15 _=>ln - (intOf s15).toNat)
      case atStart=>exact ⟨0,rfl,Nat.zero_le _,rfl,st⟩
      case round =>
       clear st
       obtain ⟨j,rfl,hjn,rfl,bq⟩:=hrel
       replace bw:=Zb bw bq
       replace pPr:=pPr.below bq
       replace hkr:=Ze hkr bq
       replace how:=how.below bq
       replace hV:=hV.below bq
       replace pS:=pS.below bq
       replace hbt:=Zb hbt bq
       replace hL:=hL.below bq
       by_cases hlt2:j<ln
       ·have hkj:(Zj rows r.1 3)[j]?=some ((Zj rows r.1 3).getD j 0):=by rw [List.getD,List.getElem?_eq_getElem (by omega)];rfl
        have hz:=Ya (List.mem_of_getElem? hkj)
        obtain ⟨h0k,h2k,hd,_⟩:=ZX hz
        obtain ⟨k,hk⟩:∃ k:Nat,(Zj rows r.1 3).getD j 0=(k:Int):=⟨_,(Int.toNat_of_nonneg h0k).symm⟩
        obtain ⟨lb,lo,rfl,hc,hlb⟩:=Y8 hL.ints (show j<ln from hlt2)
        rw [hk] at hkj hz hd h0k h2k hc
        rw [Int.toNat_natCast] at hd
        have hk3:k<3:=by omega
        clear hk hlb
        have hx:=ZV hp hs hz
        have hps:=HU hp hs hz
        have hnm:(goM rows r.1 (k:Int)).1 ∈ S.map (·.1):=hCl r (List.mem_of_getElem? hr) _ (List.mem_map.2 ⟨_,List.mem_of_getElem? hkj,rfl⟩)
        obtain ⟨q,r2,hq1,hq2,hq3,hq4⟩:=My hSh hx hnm
        have hcq:cts.getD q 0=(Z7 rows (goM rows r.1 (k:Int)).1:Int):=by
         have:=hct.2 q r2 hq3 (.inl (by rw [hq4,← heq];exact hps))
         rw [hq4] at this
         exact this
        have hsu:=RV hkj
        have hcb:=(WE hp _ _ hx (Nat.le_refl _)).2
        have hnl:=RU hp hs j
        have kP:=fun (W:World) (b:Below w.heap.size w W) (h:Yk W ((some ⟨pg,0,none⟩,3,t0c),(t1a,t1n,t1c),(t2a,t2n,t2c),(t3a,t3n,t3c)) r.1)=>WJ (cap:=cap) rfl (hR.below b) h hp hs hk3 hd
        rw [← Wq] at kP
        have ut:S4.val ((some ⟨pg,0,none⟩,3,t0c),(t1a,t1n,t1c),(t2a,t2n,t2c),(t3a,t3n,t3c))=.agg #[.slice (some ⟨pg,0,none⟩) 3 t0c,.slice t1a t1n t1c,.slice t2a t2n t2c,.slice t3a t3n t3c]:=rfl
        rw [ut] at kP
        have HSU:Hid (Xj rows r.1 (j+1)=Xj rows r.1 j+Z7 rows (goM rows r.1 (k:Int)).1):=hsu
        generalize Z7 rows (goM rows r.1 (k:Int)).1=cn at *
        generalize goM rows r.1 (k:Int)=zf at *
        obtain ⟨z,f⟩:=zf
        simp only at kP hx hq2
        have hqn:q<n:=by rw [HNS.out];exact hq1
        have HQ:Hid (Wm (Zy S) (Ye z) (Zy S).length=(q:Int)):=hq2
        have hlt3:(j:Int)<(ln:Int):=by omega
        have hj0:(0:Int)≤(j:Int):=by omega
        have hj9:j<3:=by omega
        clear hsu hkj hz hd hps hnm hq1 hq2 hq3 hq4
        go_wp2_with fail
        have hb9:Below wr.heap.size wr wr.drew:=by go_grown
        refine wp_region_held_drew (S:=(fun w'=>w'.cell? ⟨w.heap.size,0,none⟩=some (.slice a 3 cap)∧w'.cell? ⟨X,0,none⟩=some (.slice (some ⟨pg,0,none⟩) 3 t0c)∧w'.cell? ⟨X,1,none⟩=some (.slice t1a t1n t1c)∧w'.cell? ⟨X,2,none⟩=some (.slice t2a t2n t2c)∧w'.cell? ⟨X,3,none⟩=some (.slice t3a t3n t3c)∧w'.cell? ⟨lb,lo+j,none⟩=some (.int .i64 (k:Int)))) (by kernel_rfl) ⟨by simpa using pPr.cell 0,by simpa using pS.cell 0,by simpa using pS.cell 1,by simpa using pS.cell 2,by simpa using pS.cell 3,hc⟩ (fun hS0=>?_)
        refine tkm 0 81 (.agg #[.slice a 3 cap]) ?_
        refine tkm 1 82 (.agg #[.slice (some ⟨pg,0,none⟩) 3 t0c,.slice t1a t1n t1c,.slice t2a t2n t2c,.slice t3a t3n t3c]) ?_
        refine tkm 2 83 (.slice (some ⟨lb,lo,none⟩) ln lc) ?_
        refine tkm 3 84 (.int .i64 (j:Int)) ?_
        refine tkm 4 85 (.pointer (some ⟨lb,lo+j,none⟩)) ?_
        refine tkm 5 86 (.int .i64 (k:Int)) ?_
        replace bw:=Zb bw hb9
        replace hkr:=Ze hkr hb9
        replace how:=how.below hb9
        replace hV:=hV.below hb9
        replace bq:=Zb bq hb9
        clear hb9
        generalize wr.drew=V at *
        refine wpAnyH_ready (rs:=[6,10]) (by kernel_rfl) (by simp) ?_
        refine AllReadyH.cons (o:=⟨some 87,_,_,_,_,_⟩) rfl (fun K hK=>?_) (AllReadyH.cons (o:=⟨some 16,_,_,_,_,_⟩) rfl (fun K hK=>?_) AllReadyH.nil)
        ·have kPx:=kP V bw (hV.mem fm)
         go_simp
         refine kPx.mono ?_
         rintro e V1 ⟨⟨⟨⟨z0a,z0n,z0c⟩,⟨z1a,z1n,z1c⟩,⟨z2a,z2n,z2c⟩,⟨z3a,z3n,z3c⟩⟩,rfl,hO2⟩,hb1⟩
         have uz:S4.val ((z0a,z0n,z0c),(z1a,z1n,z1c),(z2a,z2n,z2c),(z3a,z3n,z3c))=.agg #[.slice z0a z0n z0c,.slice z1a z1n z1c,.slice z2a z2n z2c,.slice z3a z3n z3c]:=rfl
         rw [uz]
         clear uz
         go_wp2_with fail
         refine hK.out _ _ ⟨Za hb1 _ _ hS0.1,Za hb1 _ _ hS0.2.1,Za hb1 _ _ hS0.2.2.1,Za hb1 _ _ hS0.2.2.2.1,Za hb1 _ _ hS0.2.2.2.2.1,Za hb1 _ _ hS0.2.2.2.2.2⟩ (fun hS5=>?_)
         clear hK kPx
         try simp only [Act.put,tka,tkb,tkc]
         refine tkm 7 80 (.tuple #[.agg #[.slice z0a z0n z0c,.slice z1a z1n z1c,.slice z2a z2n z2c,.slice z3a z3n z3c],.int .i64 f]) ?_
         refine tkm 8 88 (.agg #[.slice z0a z0n z0c,.slice z1a z1n z1c,.slice z2a z2n z2c,.slice z3a z3n z3c]) ?_
         refine tkm 9 89 (.int .i64 f) ?_
         refine tkr 10 16 (fun K hK=>?_)
         have hb2:Below V1.heap.size V1 (V1.alloc (.cells #[.slice none 0 0,.slice none 0 0,.slice none 0 0,.slice none 0 0] 74)):=by go_grown
         have pX:Blk (V1.alloc (.cells #[.slice none 0 0,.slice none 0 0,.slice none 0 0,.slice none 0 0] 74)) V1.heap.size 74 [.slice none 0 0,.slice none 0 0,.slice none 0 0,.slice none 0 0]:=Zo _ _ _ rfl
         replace hO2:=hO2.below hb2
         have hbA:=Zb hb1 hb2
         have hYV:V.heap.size≤V1.heap.size:=hb1.size
         go_simp
         refine hK.out _ _ ⟨Za hbA _ _ hS0.1,Za hbA _ _ hS0.2.1,Za hbA _ _ hS0.2.2.1,Za hbA _ _ hS0.2.2.2.1,Za hbA _ _ hS0.2.2.2.2.1,Za hbA _ _ hS0.2.2.2.2.2⟩ (fun hS6=>?_)
         clear hK hb1 hb2
         generalize (V1.alloc (.cells #[.slice none 0 0,.slice none 0 0,.slice none 0 0,.slice none 0 0] 74))=V2 at *
         generalize V1.heap.size=Y at *
         try simp only [Act.put,tka,tkb,tkc]
         refine tkz 11 (fun K hK=>?_)
         refine Zt rfl 74 _ _ rfl Y [.slice z0a z0n z0c,.slice z1a z1n z1c,.slice z2a z2n z2c,.slice z3a z3n z3c] rfl rfl pX (by kernel_rfl) rfl rfl ?_
         intro V8 pX8 g8
         replace hO2:=hO2.kept9 g8 pX (by decide)
         have hbig:=hbA.grown g8 hbA.size (fun q hq=>by cases hq;exact hYV)
         refine hK.out _ _ ⟨Za hbig _ _ hS0.1,Za hbig _ _ hS0.2.1,Za hbig _ _ hS0.2.2.1,Za hbig _ _ hS0.2.2.2.1,Za hbig _ _ hS0.2.2.2.2.1,Za hbig _ _ hS0.2.2.2.2.2⟩ (fun hS7=>?_)
         clear hK pX g8 hbA hYV
         have pX:=pX8.out
         clear pX8
         try simp only [Act.put,tka,tkb,tkc]
         refine tkm 12 17 (.int .i64 f) ?_
         refine wpAnyH_done (by kernel_rfl) ?_ _
         replace bw:=Zb bw hbig
         replace hkr:=Ze hkr hbig
         replace how:=how.below hbig
         replace bq:=Zb bq hbig
         clear hbig hS0 hS5 hS6 hS7 pPr pS hV kP hc hL
         have fz:=(ZO hx).1
         have kK:=Vo ((z0a,z0n,z0c),(z1a,z1n,z1c),(z2a,z2n,z2c),(z3a,z3n,z3c)) z V8 (hO2.mem fz) hx
         have uz:S4.val ((z0a,z0n,z0c),(z1a,z1n,z1c),(z2a,z2n,z2c),(z3a,z3n,z3c))=.agg #[.slice z0a z0n z0c,.slice z1a z1n z1c,.slice z2a z2n z2c,.slice z3a z3n z3c]:=rfl
         rw [uz] at kK
         clear uz
         go_wp2_with (first | refine Zc rfl 74 _ rfl Y rfl pX _ Tryz.underlying74 rfl (by kernel_rfl) ?_)
         refine kK.mono ?_
         rintro e Va ⟨rfl,hb⟩
         replace bw:=Zb bw hb
         replace hkr:=Ze hkr hb
         replace how:=how.below hb
         replace bq:=Zb bq hb
         clear hb kK pX hO2 fz hx
         have kF:=VD (some ⟨gk,0,none⟩) n ck (Zy S) (Ye z) Va (LT hkr) (by omega)
         rw [HNK.out,HQ.out,← HNK.out] at kF
         have cq:=how.at9 hqn
         rw [hcq] at cq
         have hqn1:(q:Int)<(n:Int):=by omega
         have hq0:(0:Int)≤(q:Int):=by omega
         clear hcq
         go_wp2_with fail
         refine kF.mono ?_
         rintro e Vb ⟨rfl,rfl⟩
         clear kF
         have hnn:wrap64 ((Xj rows r.1 j:Int)+(cn:Int))=(Xj rows r.1 (j+1):Int):=by
          rw [HSU.out]
          unfold wrap64
          omega
         have HNN:Hid (wrap64 ((Xj rows r.1 j:Int)+(cn:Int))=(Xj rows r.1 (j+1):Int)):=hnn
         clear hnn hcb hnl HSU how hkr bw hbt
         go_wp2
         refine ⟨⟨j+1,by go_num,by omega,?_,bq⟩,by simp [intOf];omega⟩
         first | rw [HNN.out] | (have:=HNN.out;unfold wrap64 at this;simp_all)
        have hb1:Below V.heap.size V (V.alloc (.cells #[.slice none 0 0,.slice none 0 0,.slice none 0 0,.slice none 0 0] 74)):=by go_grown
        have pX:Blk (V.alloc (.cells #[.slice none 0 0,.slice none 0 0,.slice none 0 0,.slice none 0 0] 74)) V.heap.size 74 [.slice none 0 0,.slice none 0 0,.slice none 0 0,.slice none 0 0]:=Zo _ _ _ rfl
        have hYV:V.heap.size≤V.heap.size:=Nat.le_refl _
        go_simp
        refine hK.out _ _ ⟨Za hb1 _ _ hS0.1,Za hb1 _ _ hS0.2.1,Za hb1 _ _ hS0.2.2.1,Za hb1 _ _ hS0.2.2.2.1,Za hb1 _ _ hS0.2.2.2.2.1,Za hb1 _ _ hS0.2.2.2.2.2⟩ (fun hS6=>?_)
        clear hK
        have kPx:=kP _ (Zb bw hb1) ((hV.below hb1).mem fm)
        generalize (V.alloc (.cells #[.slice none 0 0,.slice none 0 0,.slice none 0 0,.slice none 0 0] 74))=V2 at *
        obtain ⟨Y,hY⟩:∃ Y,Y=V.heap.size:=⟨_,rfl⟩
        rw [← hY] at pX hYV ⊢
        replace hYV:V.heap.size≤Y:=by omega
        clear hY
        try simp only [Act.put,tka,tkb,tkc]
        refine tkr 6 87 (fun K hK=>?_)
        go_simp
        refine kPx.mono ?_
        rintro e V3 ⟨⟨⟨⟨z0a,z0n,z0c⟩,⟨z1a,z1n,z1c⟩,⟨z2a,z2n,z2c⟩,⟨z3a,z3n,z3c⟩⟩,rfl,hO2⟩,hb2⟩
        have uz:S4.val ((z0a,z0n,z0c),(z1a,z1n,z1c),(z2a,z2n,z2c),(z3a,z3n,z3c))=.agg #[.slice z0a z0n z0c,.slice z1a z1n z1c,.slice z2a z2n z2c,.slice z3a z3n z3c]:=rfl
        rw [uz]
        clear uz
        go_wp2_with fail
        have hbA:=Zb hb1 hb2
        replace pX:=pX.below hb2
        refine hK.out _ _ ⟨Za hbA _ _ hS0.1,Za hbA _ _ hS0.2.1,Za hbA _ _ hS0.2.2.1,Za hbA _ _ hS0.2.2.2.1,Za hbA _ _ hS0.2.2.2.2.1,Za hbA _ _ hS0.2.2.2.2.2⟩ (fun hS5=>?_)
        clear hK kPx hb1 hb2
        try simp only [Act.put,tka,tkb,tkc]
        refine tkm 7 80 (.tuple #[.agg #[.slice z0a z0n z0c,.slice z1a z1n z1c,.slice z2a z2n z2c,.slice z3a z3n z3c],.int .i64 f]) ?_
        refine tkm 8 88 (.agg #[.slice z0a z0n z0c,.slice z1a z1n z1c,.slice z2a z2n z2c,.slice z3a z3n z3c]) ?_
        refine tkm 9 89 (.int .i64 f) ?_
        refine tkz 11 (fun K hK=>?_)
        refine Zt rfl 74 _ _ rfl Y [.slice z0a z0n z0c,.slice z1a z1n z1c,.slice z2a z2n z2c,.slice z3a z3n z3c] rfl rfl pX (by kernel_rfl) rfl rfl ?_
        intro V8 pX8 g8
        replace hO2:=hO2.kept9 g8 pX (by decide)
        have hbig:=hbA.grown g8 hbA.size (fun q hq=>by cases hq;exact hYV)
        refine hK.out _ _ ⟨Za hbig _ _ hS0.1,Za hbig _ _ hS0.2.1,Za hbig _ _ hS0.2.2.1,Za hbig _ _ hS0.2.2.2.1,Za hbig _ _ hS0.2.2.2.2.1,Za hbig _ _ hS0.2.2.2.2.2⟩ (fun hS7=>?_)
        clear hK pX g8 hbA hYV
        have pX:=pX8.out
        clear pX8
        try simp only [Act.put,tka,tkb,tkc]
        refine tkm 12 17 (.int .i64 f) ?_
        refine wpAnyH_done (by kernel_rfl) ?_ _
        replace bw:=Zb bw hbig
        replace hkr:=Ze hkr hbig
        replace how:=how.below hbig
        replace bq:=Zb bq hbig
        clear hbig hS0 hS5 hS6 hS7 pPr pS hV kP hc hL
        have fz:=(ZO hx).1
        have kK:=Vo ((z0a,z0n,z0c),(z1a,z1n,z1c),(z2a,z2n,z2c),(z3a,z3n,z3c)) z V8 (hO2.mem fz) hx
        have uz:S4.val ((z0a,z0n,z0c),(z1a,z1n,z1c),(z2a,z2n,z2c),(z3a,z3n,z3c))=.agg #[.slice z0a z0n z0c,.slice z1a z1n z1c,.slice z2a z2n z2c,.slice z3a z3n z3c]:=rfl
        rw [uz] at kK
        clear uz
        go_wp2_with (first | refine Zc rfl 74 _ rfl Y rfl pX _ Tryz.underlying74 rfl (by kernel_rfl) ?_)
        refine kK.mono ?_
        rintro e Va ⟨rfl,hb⟩
        replace bw:=Zb bw hb
        replace hkr:=Ze hkr hb
        replace how:=how.below hb
        replace bq:=Zb bq hb
        clear hb kK pX hO2 fz hx
        have kF:=VD (some ⟨gk,0,none⟩) n ck (Zy S) (Ye z) Va (LT hkr) (by omega)
        rw [HNK.out,HQ.out,← HNK.out] at kF
        have cq:=how.at9 hqn
        rw [hcq] at cq
        have hqn1:(q:Int)<(n:Int):=by omega
        have hq0:(0:Int)≤(q:Int):=by omega
        clear hcq
        go_wp2_with fail
        refine kF.mono ?_
        rintro e Vb ⟨rfl,rfl⟩
        clear kF
        have hnn:wrap64 ((Xj rows r.1 j:Int)+(cn:Int))=(Xj rows r.1 (j+1):Int):=by
         rw [HSU.out]
         unfold wrap64
         omega
        have HNN:Hid (wrap64 ((Xj rows r.1 j:Int)+(cn:Int))=(Xj rows r.1 (j+1):Int)):=hnn
        clear hnn hcb hnl HSU how hkr bw hbt
        go_wp2
        refine ⟨⟨j+1,by go_num,by omega,?_,bq⟩,by simp [intOf];omega⟩
        first | rw [HNN.out] | (have:=HNN.out;unfold wrap64 at this;simp_all)
       have hge2:¬ (j:Int)<(ln:Int):=by omega
       have hfin:=KX hp hs (j:=j) (by omega)
       have hnl:=RU hp hs j
       have hmn:min (Xj rows r.1 j:Int) 1000000=(Z7 rows r.1:Int):=by
        rw [← hfin,Tn]
        omega
       have cC:=how.at9 hlt
       have fC:=how.frz9 i
       have ho9:=how.set9 i (Z7 rows r.1:Int)
       have g9:wk.grownBy (wr.setCell ⟨gc,i,none⟩ (.int .i64 (Z7 rows r.1:Int))) (some gc):=ZL (ZL hgo (Yb hbt)) (Zu wr gc i _)
       have b9:=bw.grown (Zu wr gc i (.int .i64 (Z7 rows r.1:Int))) bw.size (fun q e=>by cases e;exact hgcw)
       have hct9:=hct.put hr
       have st9:OnC w wk (wr.setCell ⟨gc,i,none⟩ (.int .i64 (Z7 rows r.1:Int))) rows gc n S sum (i+1) (cts.set i (Z7 rows r.1:Int)):=⟨ho9,hct9,g9,b9⟩
       generalize cts.getD i 0=old at cC
       clear ho9 g9 b9 hct9 how hgo hbt hct hkr pPr pS hV hL hfin hnl bq bw
       have HMN:Hid (0=0):=rfl
       go_wp2
       exact ⟨⟨i+1,_,by go_num,by omega,st9⟩,by simp [intOf];omega⟩
     have hne:((y0+y1+y2) != sum)=true:=by rw [bne_iff_ne,← HPN.out];exact heq
     have hct:=hO.ct.skip hr heq
     have st9:OnC w wk w4 rows gc n S sum (i+1) cts:=⟨how,hct,ZL hO.gr (Yb hbt),bw⟩
     clear hO how hct hV hM pS pPr hkr
     go_wp2_with fail
     go_quiet (fail)
     have st8:OnC w wk (w4.drewN nq) rows gc n S sum (i+1) cts:=⟨st9.ow.below (Z3 _),st9.ct,ZL st9.gr (Yb (Z3 _)),Zb st9.bw (Z3 _)⟩
     clear st9
     generalize w4.drewN nq=w5 at *
     go_wp2
     go_roundw
     case rel=>exact ⟨i+1,_,by go_num,by omega,st8⟩
     case measure=>simp [intOf];omega
    have hge:¬ (i:Int)<(n:Int):=by omega
    have hct9:=hO.ct.next (by rw [← HNS.out];omega)
    have st9:OnC w wk wr rows gc n S (sum - 1) 0 cts:=⟨hO.ow,hct9,hO.gr,hO.bw⟩
    rw [HSM.out] at st9
    clear hO hct9
    have he1:((sm:Int) - 1 - 1)=((sm - 1:Nat):Int) - 1:=by omega
    rw [he1] at st9
    have hsw:sum - 1=((sm - 1:Nat):Int) - 1:=by rw [HSM.out];omega
    go_wp2
    refine ⟨⟨sm - 1,cts,?_,by omega,st9⟩,?_⟩
    ·first | rw [hsw] | (congr 1)
    simp [intOf];omega
 have hd:decide ((Yd rows).length≤2000)=false:=decide_eq_false hf
 have e1:Xi rows=15:=by unfold Xi;rw [hp,if_pos rfl,if_neg hf]
 have HE:Hid (rv=0∧rc=15):=⟨by rw [HV.out,e1];rfl,by rw [HC.out,e1]⟩
 clear e1 HV HC hT hF hf
 go_wp2
 refine bodyPost_ret (by simp [results,Tryz.results32,go_sem];try rfl) rfl ?_
 exact ⟨by rw [HE.out.1,HE.out.2],bw⟩
end Go.Proofs.YtmhlokahmblboaaGreatDoor
