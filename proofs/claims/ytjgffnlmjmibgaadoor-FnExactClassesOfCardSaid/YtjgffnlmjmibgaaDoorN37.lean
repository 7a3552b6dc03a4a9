/-
  Joined: ClkI, LstI, EvD, RpH.
-/
import Derived.Test.YtjgffnlmjmibgaaDoorN36

namespace Go.Proofs.YtjgffnlmjmibgaaDoor
set_option maxRecDepth 100000
set_option maxHeartbeats 16000000
open Go.RowKit
set_option linter.unusedVariables false
set_option linter.unusedSimpArgs false

theorem info_clock:(Tryd.prog.info? 160).map (fun i=>(i.zero,i.size,i.bytes))=some (some (.agg #[.int .i64 0,.int .i64 0,.int .i64 0]),3,24):=by kernel_rfl
def tabC (n:Nat) (c:Nat→Nat→Nat):List Value:=tab (n*3) fun j=>.int .i64 (c (j / 3) (j % 3):Nat)
theorem at_three {n i t:Nat} (hi:i<n) (ht:t<3):i*3+t<n*3∧(i*3+t) / 3=i∧(i*3+t) % 3=t:=by omega
theorem tabC_get {n i t:Nat} (c:Nat→Nat→Nat) (hi:i<n) (ht:t<3):(tabC n c)[i*3+t]?=some (.int .i64 (c i t:Nat)):=by
 obtain ⟨h1,h2,h3⟩:=at_three hi ht
 unfold tabC
 rw [tab_get _ h1,h2,h3]
theorem tabC_congr {n:Nat} {c d:Nat→Nat→Nat} (h:∀ i t,i<n→t<3→c i t=d i t):tabC n c=tabC n d:=by
 refine tab_congr (fun j hj=>?_)
 rw [h (j / 3) (j % 3) (by omega) (by omega)]
theorem tabC_set {n i t:Nat} (c:Nat→Nat→Nat) (v:Nat) (hi:i<n) (ht:t<3):(tabC n c).set (i*3+t) (.int .i64 (v:Nat))=tabC n (fun k u=>if k=i∧u=t then v else c k u):=by
 unfold tabC
 rw [tab_set]
 refine tab_congr (fun j hj=>?_)
 by_cases e:j=i*3+t
 ·subst e
  obtain ⟨_,h2,h3⟩:=at_three hi ht
  rw [if_pos rfl,h2,h3]
  simp only [and_self,if_true]
 ·rw [if_neg e]
  have e9:¬ (j / 3=i∧j % 3=t):=by omega
  simp only [if_neg e9]
theorem tabC_set3 {n i:Nat} (c:Nat→Nat→Nat) (f:Nat→Nat) (hi:i<n):set3 (tabC n c) (i*3) (.int .i64 (f 0:Nat)) (.int .i64 (f 1:Nat)) (.int .i64 (f 2:Nat))=tabC n (fun k u=>if k=i then f u else c k u):=by
 unfold set3
 have e0:=tabC_set c (f 0) hi (show 0<3 by omega)
 rw [Nat.add_zero] at e0
 rw [e0,tabC_set _ (f 1) hi (by omega),tabC_set _ (f 2) hi (by omega)]
 refine tabC_congr (fun k u hk hu=>?_)
 by_cases e:k=i
 ·subst e
  match u,hu with
  | 0,_=>simp
  | 1,_=>simp
  | 2,_=>simp
 ·simp [e]
theorem clkF_far (D:Nat→Nat→Bool) (th:Nat→Nat) (t:Nat):∀ n j,n≤j→clkF D th n j t=0
 | 0,_,_=>rfl
 | n+1,j,h=>by
  show (if j=n then _ else _)=_
  rw [if_neg (by omega)]
  exact clkF_far D th t n j (by omega)
theorem joinN_bound {D:Nat→Nat→Bool} {k t B:Nat} {prev:Nat→Nat→Nat} (h:∀ j,prev j t≤B):∀ n,joinN D k prev t n≤B
 | 0=>Nat.zero_le _
 | n+1=>by
  have ih:=joinN_bound (D:=D) (k:=k) h n
  show (if D n k then Nat.max _ _ else _)≤B
  split
  ·exact Nat.max_le.2 ⟨ih,h n⟩
  ·exact ih
theorem clkF_bound (D:Nat→Nat→Bool) (th:Nat→Nat) (t:Nat):∀ n j,clkF D th n j t≤n
 | 0,_=>Nat.le_refl _
 | n+1,j=>by
  show (if j=n then _ else _)≤_
  have ih:=clkF_bound D th t n
  split
  ·have:=joinN_bound (D:=D) (k:=n) (prev:=clkF D th n) ih n
   split<;>omega
  ·have:=ih j;omega
def ClkGot (e:Ending) (w w':World) (n:Nat) (c:Nat→Nat→Nat):Prop:=∃ g,e=.returned (.slice (some ⟨g,0,none⟩) n n)∧Blk w' g 160 (tabC n c)∧w.heap.size≤g∧Below w.heap.size w w'
theorem joinN_next (D:Nat→Nat→Bool) (k:Nat) (prev:Nat→Nat→Nat) (t n:Nat):joinN D k prev t (n+1)=if D n k then Nat.max (joinN D k prev t n) (prev n t) else joinN D k prev t n:=rfl
theorem clkF_next (D:Nat→Nat→Bool) (th:Nat→Nat) (n j t:Nat):clkF D th (n+1) j t=if j=n then joinN D n (clkF D th n) t n+(if t=th n then 1 else 0) else clkF D th n j t:=rfl
def onC (D:Nat→Nat→Bool) (th:Nat→Nat) (i j k t:Nat):Nat:=if k=i then joinN D i (clkF D th i) t j else clkF D th i k t
theorem ev_range {w0 w:World} {a:Option Addr} {n:Nat} {es:List I4} (h:Evs w0 a n es) (hb:Below w0.heap.size w0 w) {k:Nat} (hk:k<n):∃ ge,a=some ⟨ge,0,none⟩∧ge<w0.heap.size∧w.rangeAt ge (k*4) [.int .i64 (evAt es k).1,.int .i64 (evAt es k).2.1,.int .i64 (evAt es k).2.2.1,.int .i64 (evAt es k).2.2.2]:=by
 obtain ⟨ge,e,hg,c0,c1,c2,c3⟩:=ev_cells h hb hk
 refine ⟨ge,e,hg,fun j v hj=>?_⟩
 match j,hj with
 | 0,hj=>simp at hj;rw [← hj];exact c0
 | 1,hj=>simp at hj;rw [← hj];exact c1
 | 2,hj=>simp at hj;rw [← hj];exact c2
 | 3,hj=>simp at hj;rw [← hj];exact c3
 | j+4,hj=>simp at hj

theorem clocksOf_is (a:Option Addr) (n c:Nat) (es:List I4) (w:World) (h:Evs w a n es) (hn:n≤4096) (hnc:n≤c) (hI:inThree es) :
  Calls Tryd.prog 96 #[.slice a n c] w fun e w'=>ClkGot e w w' n (clk (depE es) (thE es)):=by
 obtain ⟨i0,hi9,hz0,hz1,hz2⟩:=info_parts info_clock
 unfold ClkGot
 obtain ⟨D,hD⟩:∃ D,D=depE es:=⟨_,rfl⟩
 obtain ⟨th,hT⟩:∃ th,th=thE es:=⟨_,rfl⟩
 rw [← hD,← hT]
 have HD:Hid (D=depE es∧th=thE es):=⟨hD,hT⟩
 clear hD hT
 go_enter Tryd.func96,Tryd.ntmps96
 go_wp2_with (at_make;refine wpList_make_full _ rfl _ _ 157 rfl w.heap.size 160 i0 (.agg #[.int .i64 0,.int .i64 0,.int .i64 0]) 3 Tryd.underlying157 hi9 hz0 hz1 _ _ _ _ n rfl rfl rfl rfl ?b2 ?b3 ?b4 ?_)
 case b2=>rw [hz2];omega
 case b3=>unfold maxLen;omega
 case b4=>exact Nat.le_refl _
 intro w1 hown hgrow
 rw [made_tab3] at hown
 have bw:Below w.heap.size w w1:=⟨hgrow.os,hgrow.tape,hgrow.output,hgrow.size,fun k hk=>hgrow.block k hk (by simp)⟩
 have pT:Hid (Blk w1 w.heap.size 160 (tabC n (clkF D th 0))):=(blk_of_full hown).1
 clear hown hgrow
 obtain ⟨g,hg⟩:∃ g,g=w.heap.size:=⟨_,rfl⟩
 have hgw:w.heap.size≤g:=by omega
 rw [← hg] at pT ⊢
 clear hg
 go_wp2_with fail
 go_loopw [13] (fun sk wr=>∃ i:Nat,i≤n∧sk=.int .i64 i∧Hid (Blk wr g 160 (tabC n (clkF D th i)))∧Below w.heap.size w wr) (fun sk _=>n - (intOf sk).toNat)
 case atStart=>exact ⟨0,by omega,rfl,pT,bw⟩
 case round =>
  clear pT bw
  obtain ⟨i,hi,rfl,pT,bw⟩:=hrel
  by_cases hin:i<n
  ·have hin':(i:Int)<(n:Int):=by omega
   have hi0:(0:Int)≤(i:Int):=by omega
   obtain ⟨ge,rfl,hgl,hrg⟩:=ev_range h bw hin
   have hDi:∀ j,D j i=depM (evAt es j) (evAt es i):=fun j=>by rw [HD.out.1];rfl
   have hti:(th i:Int)=(evAt es i).1:=by rw [HD.out.2];exact thE_int hI i
   have ht3:th i<3:=by rw [HD.out.2];exact thE_three hI i
   generalize evAt es i=x at hrg hDi hti
   obtain ⟨x0,x1,x2,x3⟩:=x
   simp only at hrg hti
   have pN:=Blk.new wr 154 [.int .i64 0,.int .i64 0,.int .i64 0,.int .i64 0]
   have ha:Below wr.heap.size wr (wr.alloc (.cells #[.int .i64 0,.int .i64 0,.int .i64 0,.int .i64 0] 154)):=by go_grown
   go_wp2_with (first | refine wpList_load_mid rfl 154 _ rfl ge (i*4) rfl [.int .i64 x0,.int .i64 x1,.int .i64 x2,.int .i64 x3] _ hrg Tryd.underlying154 rfl (by kernel_rfl) ?_ | refine wpList_store_blk rfl 154 _ _ rfl wr.heap.size [.int .i64 x0,.int .i64 x1,.int .i64 x2,.int .i64 x3] rfl rfl pN (by kernel_rfl) rfl rfl ?_)
   intro W pX g1
   have hgr:=pT.out.lt
   have pT1:Hid (Blk W g 160 (tabC n (onC D th i 0))):=by
    have e:tabC n (onC D th i 0)=tabC n (clkF D th i):=tabC_congr (fun k t _ _=>by
     unfold onC
     split
     ·rename_i e;subst e;rw [clkF_far D th t k k (Nat.le_refl _)];rfl
     ·rfl)
    unfold Hid
    rw [e]
    exact (pT.out.below ha).kept g1 (by simp;omega)
   have bw1:=(bel_trans bw ha).grown g1 (Nat.le_trans bw.size ha.size) (fun k e=>by cases e;exact bw.size)
   have hgX:wr.heap.size<W.heap.size:=pX.out.lt
   have hgg:g<wr.heap.size:=hgr
   have hwg:=bw.size
   clear pN ha g1 hrg pT bw hgr
   generalize wr.heap.size=gX at *
   have hic:i≤c:=by omega
   have hc0:¬ c=0:=by omega
   go_wp2_with fail
   go_loopw [22] (fun sj wr=>∃ j:Nat,j≤i∧sj=.int .i64 j∧Hid (Blk wr g 160 (tabC n (onC D th i j)))∧Hid (Blk wr gX 154 [.int .i64 x0,.int .i64 x1,.int .i64 x2,.int .i64 x3])∧Below w.heap.size w wr) (fun sj _=>i - (intOf sj).toNat)
   case atStart=>exact ⟨0,by omega,rfl,pT1,pX,bw1⟩
   case round =>
    clear pT1 bw1 pX hgX
    obtain ⟨j,hj,rfl,pT,pX,bw⟩:=hrel
    by_cases hji:j<i
    ·have hji':(j:Int)<(i:Int):=by omega
     have hj0:(0:Int)≤(j:Int):=by omega
     have hjn':(j:Int)<(n:Int):=by omega
     obtain ⟨ge',hge',_,hrg⟩:=ev_range h bw (show j<n by omega)
     cases hge'
     have hDj:=hDi j
     generalize evAt es j=y at hrg hDj
     obtain ⟨y0,y1,y2,y3⟩:=y
     simp only at hrg
     have pN:=Blk.new wr 154 [.int .i64 0,.int .i64 0,.int .i64 0,.int .i64 0]
     have ha:Below wr.heap.size wr (wr.alloc (.cells #[.int .i64 0,.int .i64 0,.int .i64 0,.int .i64 0] 154)):=by go_grown
     go_wp2_with (first | refine wpList_load_mid rfl 154 _ rfl ge (j*4) rfl [.int .i64 y0,.int .i64 y1,.int .i64 y2,.int .i64 y3] _ hrg Tryd.underlying154 rfl (by kernel_rfl) ?_ | refine wpList_store_blk rfl 154 _ _ rfl wr.heap.size [.int .i64 y0,.int .i64 y1,.int .i64 y2,.int .i64 y3] rfl rfl pN (by kernel_rfl) rfl rfl ?_)
     intro W pY g1
     have hgr:=pT.out.lt
     have hxr:=pX.out.lt
     have pT1:Hid (Blk W g 160 (tabC n (onC D th i j))):=(pT.out.below ha).kept g1 (by simp;omega)
     have pX1:=(pX.out.below ha).kept g1 (by simp;omega)
     have bw1:=(bel_trans bw ha).grown g1 (Nat.le_trans bw.size ha.size) (fun k e=>by cases e;exact bw.size)
     have pY1:=pY.out
     clear pN ha g1 hrg pT bw pX pY hgr hxr
     generalize wr.heap.size=gY at *
     go_wp2_with (first | refine wpList_load_blk rfl 154 _ rfl gY rfl pY1 _ Tryd.underlying154 rfl (by kernel_rfl) ?_ | refine wpList_load_blk rfl 154 _ rfl gX rfl pX1 _ Tryd.underlying154 rfl (by kernel_rfl) ?_)
     refine (implDepends_is (y0,y1,y2,y3) (x0,x1,x2,x3) _).mono ?_
     rintro e w2 ⟨rfl,hb⟩
     rw [← hDj]
     have pT2:Hid (Blk w2 g 160 (tabC n (onC D th i j))):=pT1.out.below hb
     have pX2:Hid (Blk w2 gX 154 [.int .i64 x0,.int .i64 x1,.int .i64 x2,.int .i64 x3]):=pX1.below hb
     have bw2:=bel_trans bw1 hb
     clear pT1 pX1 pY1 hb bw1 hDj
     cases hd:D j i
     ·have pT3:Hid (Blk w2 g 160 (tabC n (onC D th i (j+1)))):=by
       have e:tabC n (onC D th i (j+1))=tabC n (onC D th i j):=tabC_congr (fun k t _ _=>by
        unfold onC
        rw [joinN_next,hd]
        rfl)
       unfold Hid
       rw [e]
       exact pT2.out
      clear pT2 hd
      go_wp2
      go_roundw
      case rel=>exact ⟨j+1,by omega,by go_num,pT3,pX2,bw2⟩
      case measure=>simp [intOf];omega
     ·have c0:=(pT2.out.cell (j*3)).trans (tabC_get (t:=0) (onC D th i j) (show j<n by omega) (by omega))
      have c1:=(pT2.out.cell (j*3+1)).trans (tabC_get (t:=1) (onC D th i j) (show j<n by omega) (by omega))
      have c2:=(pT2.out.cell (j*3+2)).trans (tabC_get (t:=2) (onC D th i j) (show j<n by omega) (by omega))
      have kJ:=join_is (w:=w2.drew) (off:=i*3) pT2.out (onC D th i j i) (onC D th i j j) (tabC_get (t:=0) _ hin (by omega)) (tabC_get (t:=1) _ hin (by omega)) (tabC_get (t:=2) _ hin (by omega))
      rw [tabC_set3 (onC D th i j) (fun t=>max (onC D th i j i t) (onC D th i j j t)) hin] at kJ
      have eJ:tabC n (fun k u=>if k=i then max (onC D th i j i u) (onC D th i j j u) else onC D th i j k u)=tabC n (onC D th i (j+1)):=tabC_congr (fun k t _ _=>by
       unfold onC
       rw [joinN_next,hd]
       have ne:¬ j=i:=by omega
       by_cases e:k=i
       ·simp only [e,if_true,if_neg ne]
       ·simp only [if_neg e])
      rw [eJ] at kJ
      unfold ck at kJ
      clear eJ
      have kJ2:=kJ.mono (R':=fun e w'=>e=.returned (.tuple #[])∧Blk w' g 160 (tabC n (onC D th i (j+1)))∧w2.drew.grownBy w' (some g)∧w'.cell? ⟨g,j*3,none⟩=some (.int .i64 (onC D th i j j 0:Nat))∧w'.cell? ⟨g,j*3+1,none⟩=some (.int .i64 (onC D th i j j 1:Nat))∧w'.cell? ⟨g,j*3+2,none⟩=some (.int .i64 (onC D th i j j 2:Nat))) (by
       rintro e w' ⟨h1,h2,h3⟩
       have eZ:∀ t,onC D th i (j+1) j t=onC D th i j j t:=fun t=>by
        unfold onC
        rw [if_neg (show ¬ j=i by omega),if_neg (show ¬ j=i by omega)]
       have d0:=(h2.cell (j*3)).trans (tabC_get (t:=0) _ (show j<n by omega) (by omega))
       have d1:=(h2.cell (j*3+1)).trans (tabC_get (t:=1) _ (show j<n by omega) (by omega))
       have d2:=(h2.cell (j*3+2)).trans (tabC_get (t:=2) _ (show j<n by omega) (by omega))
       rw [eZ] at d0 d1 d2
       exact ⟨h1,h2,h3,d0,d1,d2⟩)
      clear kJ
      generalize onC D th i j j 0=z0 at *
      generalize onC D th i j j 1=z1 at *
      generalize onC D th i j j 2=z2 at *
      clear hd
      go_wp2_with fail
      go_region_held3 (fun w'=>w'.cell? ⟨g,j*3,none⟩=some (.int .i64 z0)∧w'.cell? ⟨g,j*3+1,none⟩=some (.int .i64 z1)∧w'.cell? ⟨g,j*3+2,none⟩=some (.int .i64 z2)) (first | (exact ⟨c0,c1,c2⟩) | (exact ⟨d0,d1,d2⟩) | go_keep)
       (first | (go_at_call 119;refine kJ2.mono ?_;rintro e w3 ⟨rfl,pJ,gJ,d0,d1,d2⟩))
      clear kJ2 c0 c1 c2 d0 d1 d2
      have pX3:Hid (Blk w3 gX 154 [.int .i64 x0,.int .i64 x1,.int .i64 x2,.int .i64 x3]):=pX2.out.drew.kept gJ (by simp;omega)
      have bw3:Below w.heap.size w w3:=(bel_trans bw2 (by go_grown)).grown gJ bw2.size (fun k e=>by cases e;exact hgw)
      have pT3:Hid (Blk w3 g 160 (tabC n (onC D th i (j+1)))):=pJ
      clear pX2 bw2 pT2 gJ pJ
      go_wp2
      go_roundw
      case rel=>exact ⟨j+1,by omega,by go_num,pT3,pX3,bw3⟩
      case measure=>simp [intOf];omega
    ·obtain rfl:j=i:=by omega
     subst hti
     clear hDi hic hc0
     obtain ⟨t,ht⟩:∃ t,t=th j:=⟨_,rfl⟩
     have HTt:Hid (t=th j):=ht
     rw [← ht] at ht3 pX
     clear ht
     have cX:=pX.out.cell 0
     simp only [List.getElem?_cons_zero] at cX
     have c0:=(pT.out.cell (j*3+t)).trans (tabC_get _ hin ht3)
     have f0:=pT.out.frozen (j*3+t)
     have eV:onC D th j j j t=joinN D j (clkF D th j) t j:=by unfold onC;rw [if_pos rfl]
     rw [eV] at c0
     have hvb:=joinN_bound (D:=D) (k:=j) (prev:=clkF D th j) (t:=t) (fun q=>clkF_bound D th t j q) j
     have pT2:=pT.out.set (j*3+t) (.int .i64 (joinN D j (clkF D th j) t j+1:Nat))
     rw [tabC_set _ _ hin ht3] at pT2
     have e2:tabC n (fun k u=>if k=j∧u=t then joinN D j (clkF D th j) t j+1 else onC D th j j k u)=tabC n (clkF D th (j+1)):=tabC_congr (fun k u _ _=>by
      rw [clkF_next]
      unfold onC
      by_cases e:k=j
      ·simp only [e,true_and,if_true]
       by_cases e':u=t
       ·subst e'
        rw [if_pos rfl,if_pos HTt.out]
       ·rw [if_neg e',if_neg (fun q=>e' (q.trans HTt.out.symm)),Nat.add_zero]
      ·simp only [e,false_and,if_false])
     rw [e2] at pT2
     clear e2 eV pT
     generalize joinN D j (clkF D th j) t j=v at *
     have hw9:IntKind.i64.wrap ((v:Int)+1)=((v+1:Nat):Int):=by
      rw [IntWalk.i64_in _ ⟨by omega,by omega⟩]
      omega
     have ht9:(t:Int)<3:=by omega
     have ht8:(0:Int)≤(t:Int):=by omega
     clear pX
     go_wp2_with fail
     go_region
     have pT3:Hid (Blk ((wr.setCell ⟨g,j*3+t,none⟩ (.int .i64 (v+1:Nat))).drew) g 160 (tabC n (clkF D th (j+1)))):=pT2
     have bw3:Below w.heap.size w ((wr.setCell ⟨g,j*3+t,none⟩ (.int .i64 (v+1:Nat))).drew):=bel_trans (bw.setCell hgw _) (by go_grown)
     clear pT2 bw hw9 c0 f0 cX
     go_wp2
     go_roundw
     case rel=>exact ⟨j+1,by omega,by go_num,pT3,bw3⟩
     case measure=>simp [intOf];omega
  ·obtain rfl:i=n:=by omega
   have pT2:Blk wr g 160 (tabC i (clk D th)):=by
    have e:tabC i (clk D th)=tabC i (clkF D th i):=tabC_congr (fun k t hk _=>(clkF_clk D th k t i hk).symm)
    rw [e]
    exact pT.out
   clear pT
   go_wp2
   go_ret
   exact ⟨g,rfl,pT2,hgw,bw⟩


theorem tab_three (f:Nat→Value):tab 3 f=[f 0,f 1,f 2]:=rfl
def dueC (f:Nat→Nat) (t u:Nat):Nat:=f u+(if u=t then 1 else 0)
theorem okN_due (D:Nat→Nat→Bool) (th:Nat→Nat) (f:Nat→Nat) (k:Nat):okN D th f k=(decide (clk D th k (th k)=dueC f (th k) (th k)) && inC (clk D th k) (dueC f (th k))):=by
 unfold okN inC dueC
 simp only [if_true]
theorem leastT_step (ok:Nat→Bool) (th:Nat→Nat) (n:Nat):leastT ok th (n+1)=if ok n then Nat.min (leastT ok th n) (th n) else leastT ok th n:=rfl
theorem leastT_three {ok:Nat→Bool} {th:Nat→Nat}:∀ n,leastT ok th n≤3
 | 0=>Nat.le_refl _
 | n+1=>by
  rw [leastT_step]
  have:=leastT_three (ok:=ok) (th:=th) n
  split
  ·exact Nat.le_trans (Nat.min_le_left _ _) this
  ·exact this

theorem leastThread_is (a:Option Addr) (n c g:Nat) (es:List I4) (w:World) (h:Evs w a n es) (hn:n≤4096) (hI:inThree es) (hB:Blk w g 160 (tabC n (clk (depE es) (thE es)))) (f:Nat→Nat) (hf:∀ t,f t≤5000) :
  Calls Tryd.prog 97 #[.slice a n c,.slice (some ⟨g,0,none⟩) n n,ck f] w fun e w'=>e=.returned (.int .i64 (leastT (okN (depE es) (thE es) f) (thE es) n:Nat))∧Below w.heap.size w w':=by
 obtain ⟨D,hD⟩:∃ D,D=depE es:=⟨_,rfl⟩
 obtain ⟨th,hT⟩:∃ th,th=thE es:=⟨_,rfl⟩
 rw [← hD,← hT] at hB ⊢
 have HT:Hid (th=thE es):=hT
 clear hD hT
 unfold ck
 have pF:=Blk.new w 160 [.int .i64 (f 0:Nat),.int .i64 (f 1:Nat),.int .i64 (f 2:Nat)]
 have bw:Below w.heap.size w (w.alloc (.cells #[.int .i64 (f 0:Nat),.int .i64 (f 1:Nat),.int .i64 (f 2:Nat)] 160)):=by go_grown
 have hgl9:=hB.lt
 obtain ⟨gF,hgF⟩:∃ gF,gF=w.heap.size:=⟨_,rfl⟩
 have HgF:Hid (gF=w.heap.size):=hgF
 rw [← hgF] at pF
 have hgFw:w.heap.size≤gF:=by omega
 have hgg:g<gF:=by omega
 obtain ⟨ok,hok⟩:∃ ok,ok=okN D th f:=⟨_,rfl⟩
 rw [← hok]
 have HK:Hid (ok=okN D th f):=hok
 clear hok hgF
 go_enter Tryd.func97,Tryd.ntmps97
 go_wp2_with fail
 rw [← HgF.out]
 generalize w.alloc (.cells #[.int .i64 (f 0:Nat),.int .i64 (f 1:Nat),.int .i64 (f 2:Nat)] 160)=U at *
 go_wp2_with fail
 go_loopw [7,14] (fun sl si wr=>∃ i:Nat,i≤n∧sl=.int .i64 (leastT ok th i:Nat)∧si=.int .i64 i∧Hid (Blk wr gF 160 [.int .i64 (f 0:Nat),.int .i64 (f 1:Nat),.int .i64 (f 2:Nat)])∧Below w.heap.size w wr) (fun _ si _=>n - (intOf si).toNat)
 case atStart=>exact ⟨0,by omega,rfl,rfl,pF,bw⟩
 case round =>
  clear pF bw
  obtain ⟨i,hi,rfl,rfl,pF,bw⟩:=hrel
  by_cases hin:i<n
  ·have hin':(i:Int)<(n:Int):=by omega
   have hi0:(0:Int)≤(i:Int):=by omega
   obtain ⟨ge,rfl,hgl,hrg⟩:=ev_range h bw hin
   have hti:(th i:Int)=(evAt es i).1:=by rw [HT.out];exact thE_int hI i
   have ht3:th i<3:=by rw [HT.out];exact thE_three hI i
   generalize evAt es i=x at hrg hti
   obtain ⟨x0,x1,x2,x3⟩:=x
   simp only at hrg hti
   subst hti
   have HL:Hid (leastT ok th (i+1)=if ok i then Nat.min (leastT ok th i) (th i) else leastT ok th i):=rfl
   have hl3:=leastT_three (ok:=ok) (th:=th) i
   have HO:Hid (ok i=(decide (clk D th i (th i)=dueC f (th i) (th i)) && inC (clk D th i) (dueC f (th i)))):=by rw [HK.out];exact okN_due D th f i
   generalize leastT ok th i=l at *
   obtain ⟨t,ht⟩:∃ t,t=th i:=⟨_,rfl⟩
   rw [← ht] at ht3 hrg HL HO
   clear ht
   have pN:=Blk.new wr 154 [.int .i64 0,.int .i64 0,.int .i64 0,.int .i64 0]
   have ha:Below wr.heap.size wr (wr.alloc (.cells #[.int .i64 0,.int .i64 0,.int .i64 0,.int .i64 0] 154)):=by go_grown
   go_wp2_with (first | refine wpList_load_mid rfl 154 _ rfl ge (i*4) rfl [.int .i64 (t:Int),.int .i64 x1,.int .i64 x2,.int .i64 x3] _ hrg Tryd.underlying154 rfl (by kernel_rfl) ?_ | refine wpList_store_blk rfl 154 _ _ rfl wr.heap.size [.int .i64 (t:Int),.int .i64 x1,.int .i64 x2,.int .i64 x3] rfl rfl pN (by kernel_rfl) rfl rfl ?_)
   intro W pX g1
   have hfr:=pF.out.lt
   have pF1:=(pF.out.below ha).kept g1 (by simp;omega)
   have bw1:=(bel_trans bw ha).grown g1 (Nat.le_trans bw.size ha.size) (fun k e=>by cases e;exact bw.size)
   have pX1:=pX.out
   have hXl:=pX1.lt
   have hFX:gF<wr.heap.size:=hfr
   clear pN ha g1 hrg pX bw pF hfr
   generalize wr.heap.size=gX at *
   have pN:=Blk.new W 160 [.int .i64 0,.int .i64 0,.int .i64 0]
   have ha:Below W.heap.size W (W.alloc (.cells #[.int .i64 0,.int .i64 0,.int .i64 0] 160)):=by go_grown
   go_wp2_with (first | refine wpList_load_blk rfl 160 _ rfl gF rfl pF1 _ Tryd.underlying160 rfl (by kernel_rfl) ?_ | refine wpList_store_blk rfl 160 _ _ rfl W.heap.size [.int .i64 (f 0:Nat),.int .i64 (f 1:Nat),.int .i64 (f 2:Nat)] rfl rfl pN (by kernel_rfl) rfl rfl ?_)
   intro V pD g1
   have pF2:Hid (Blk V gF 160 [.int .i64 (f 0:Nat),.int .i64 (f 1:Nat),.int .i64 (f 2:Nat)]):=(pF1.below ha).kept g1 (by simp;omega)
   have pX2:=(pX1.below ha).kept g1 (by simp;omega)
   have bw2:=(bel_trans bw1 ha).grown g1 (Nat.le_trans bw1.size ha.size) (fun k e=>by cases e;exact bw1.size)
   have pD1:=pD.out
   have hsz:=bw1.size
   clear pN ha g1 pX1 pF1 bw1 pD
   generalize W.heap.size=gD at *
   have cX:=pX2.cell 0
   simp only [List.getElem?_cons_zero] at cX
   have ht9:(t:Int)<3:=by omega
   have ht8:(0:Int)≤(t:Int):=by omega
   have c0:=(pD1.cell t).trans ((congrArg (·[t]?) (tab_three fun u=>.int .i64 (f u:Nat))).symm.trans (tab_get _ ht3))
   have f0:=pD1.frozen t
   have hft:=hf t
   have pD2:Hid (Blk (V.setCell ⟨gD,t,none⟩ (.int .i64 (f t+1:Nat))) gD 160 (tab 3 fun u=>.int .i64 (dueC f t u:Nat))):=by
    have:=pD1.set t (.int .i64 (f t+1:Nat))
    have e:[.int .i64 (f 0:Nat),.int .i64 (f 1:Nat),.int .i64 (f 2:Nat)].set t (.int .i64 (f t+1:Nat))=tab 3 (fun u=>.int .i64 (dueC f t u:Nat)):=by
     rw [← tab_three fun u=>.int .i64 (f u:Nat),tab_set]
     refine tab_congr (fun u _=>?_)
     unfold dueC
     by_cases e:u=t
     ·subst e;simp
     ·simp [e]
    rw [e] at this
    exact this
   have gs:V.grownBy (V.setCell ⟨gD,t,none⟩ (.int .i64 (f t+1:Nat))) (some gD):=⟨rfl,rfl,rfl,by simp,fun i _ hr=>Below.heap_setCell V ⟨gD,t,none⟩ _ i (fun e=>hr (by rw [e]))⟩
   have pF3:Hid (Blk _ gF 160 [.int .i64 (f 0:Nat),.int .i64 (f 1:Nat),.int .i64 (f 2:Nat)]):=pF2.out.kept gs (by simp;omega)
   have pX3:=pX2.kept gs (by simp;omega)
   have bw3:=bw2.grown gs bw2.size (fun k e=>by cases e;omega)
   clear pF2 pX2 bw2 pD1 gs
   rw [show ((f t+1:Nat):Int)=(f t:Int)+1 from rfl] at pD2 pF3 pX3 bw3
   go_wp2_with fail
   generalize V.setCell ⟨gD,t,none⟩ (.int .i64 ((f t:Int)+1))=V2 at *
   clear cX c0 f0
   have cX:=pX3.cell 0
   simp only [List.getElem?_cons_zero] at cX
   have pB:=hB.below bw3
   have kt:=(pB.cell (i*3+t)).trans (tabC_get _ hin ht3)
   have dt:=(pD2.out.cell t).trans (tab_get _ ht3)
   have kk:∀ u,u<3→V2.cell? ⟨g,i*3+u,none⟩=some (.int .i64 (clk D th i u:Nat)):=fun u hu=>(pB.cell (i*3+u)).trans (tabC_get _ hin hu)
   have dd:∀ u,u<3→V2.cell? ⟨gD,u,none⟩=some (.int .i64 (dueC f t u:Nat)):=fun u hu=>(pD2.out.cell u).trans (tab_get _ hu)
   have k0:=kk 0 (by omega)
   have k1:=kk 1 (by omega)
   have k2:=kk 2 (by omega)
   have e0:=dd 0 (by omega)
   have e1:=dd 1 (by omega)
   have e2:=dd 2 (by omega)
   rw [Nat.add_zero] at k0
   have kW:=fun W=>within_is (clk D th i) (dueC f t) W
   unfold ck at kW
   clear pB kk dd pX3 pD2
   obtain ⟨o2,ho2⟩:∃ o2,o2=inC (clk D th i) (dueC f t):=⟨_,rfl⟩
   rw [← ho2] at kW HO
   clear ho2
   generalize clk D th i 0=q0 at *
   generalize clk D th i 1=q1 at *
   generalize clk D th i 2=q2 at *
   generalize dueC f t 0=r0 at *
   generalize dueC f t 1=r1 at *
   generalize dueC f t 2=r2 at *
   generalize clk D th i t=qt at *
   generalize dueC f t t=rt at *
   by_cases heq:qt=rt
   ·subst heq
    have qe:((qt:Int) == (qt:Int))=true:=by simp
    have HO2:Hid (ok i=o2):=by rw [Hid,HO.out];simp
    clear HO
    go_quiet (fail)
    have bw4:Below w.heap.size w (V2.drewN nq):=bel_trans bw3 (below_dN nq)
    have pF4:Hid (Blk (V2.drewN nq) gF 160 [.int .i64 (f 0:Nat),.int .i64 (f 1:Nat),.int .i64 (f 2:Nat)]):=pF3.out.drewN nq
    have cX4:(V2.drewN nq).cell? ⟨gX,0,none⟩=some (.int .i64 (t:Int)):=cX
    have k0':(V2.drewN nq).cell? ⟨g,i*3,none⟩=some (.int .i64 (q0:Nat)):=k0
    have k1':(V2.drewN nq).cell? ⟨g,i*3+1,none⟩=some (.int .i64 (q1:Nat)):=k1
    have k2':(V2.drewN nq).cell? ⟨g,i*3+2,none⟩=some (.int .i64 (q2:Nat)):=k2
    have e0':(V2.drewN nq).cell? ⟨gD,0,none⟩=some (.int .i64 (r0:Nat)):=e0
    have e1':(V2.drewN nq).cell? ⟨gD,1,none⟩=some (.int .i64 (r1:Nat)):=e1
    have e2':(V2.drewN nq).cell? ⟨gD,2,none⟩=some (.int .i64 (r2:Nat)):=e2
    clear bw3 pF3 cX k0 k1 k2 e0 e1 e2 kt dt
    generalize V2.drewN nq=V3 at *
    go_wp2_with fail
    go_region_held3 (fun w'=>w'.cell? ⟨g,i*3,none⟩=some (.int .i64 (q0:Nat))∧w'.cell? ⟨g,i*3+1,none⟩=some (.int .i64 (q1:Nat))∧w'.cell? ⟨g,i*3+2,none⟩=some (.int .i64 (q2:Nat))∧w'.cell? ⟨gD,0,none⟩=some (.int .i64 (r0:Nat))∧w'.cell? ⟨gD,1,none⟩=some (.int .i64 (r1:Nat))∧w'.cell? ⟨gD,2,none⟩=some (.int .i64 (r2:Nat))) (first | (exact ⟨k0',k1',k2',e0',e1',e2'⟩) | (refine ⟨?_,?_,?_,?_,?_,?_⟩<;>(apply cells_kept (by assumption);assumption)) | go_keep)
     (first | (go_at_call 120;refine (kW _).mono ?_;rintro e V4 ⟨rfl,hb⟩))
    rename_i hHeld
    have hb5:Below V3.heap.size V3 V4:=bel_trans (by go_grown) hb
    have bw5:=bel_trans bw4 hb5
    have pF5:Hid (Blk V4 gF 160 [.int .i64 (f 0:Nat),.int .i64 (f 1:Nat),.int .i64 (f 2:Nat)]):=pF4.out.below hb5
    have cX5:=cells_kept hb5 _ _ cX4
    clear hHeld k0' k1' k2' e0' e1' e2' cX4 pF4 bw4 hb hb5 kW
    cases o2
    ·have HO3:Hid (leastT ok th (i+1)=l):=by rw [Hid,HL.out,HO2.out];simp
     clear HO2 HL
     go_wp2
     go_roundw
     case rel=>exact ⟨i+1,by omega,by rw [HO3.out],by go_num,pF5,bw5⟩
     case measure=>simp [intOf];omega
    ·have HO3:Hid (leastT ok th (i+1)=Nat.min l t):=by rw [Hid,HL.out,HO2.out];simp
     clear HO2 HL
     by_cases hlt:l<t
     ·have HO4:Hid (leastT ok th (i+1)=l):=by rw [Hid,HO3.out];exact Nat.min_eq_left (by omega)
      have hlt':(l:Int)<(t:Int):=by omega
      have hlt9:¬ (t:Int)<(l:Int):=by omega
      clear HO3 hlt
      go_wp2
      go_roundw
      case rel=>exact ⟨i+1,by omega,by rw [HO4.out]<;>(try (congr 1;omega)),by go_num,pF5,bw5⟩
      case measure=>simp [intOf];omega
     ·have HO4:Hid (leastT ok th (i+1)=t):=by rw [Hid,HO3.out];exact Nat.min_eq_right (by omega)
      clear HO3
      by_cases hle:t<l
      ·have hlt':(t:Int)<(l:Int):=by omega
       have hlt9:¬ (l:Int)<(t:Int):=by omega
       clear hlt hle
       go_wp2
       go_roundw
       case rel=>exact ⟨i+1,by omega,by rw [HO4.out]<;>(try (congr 1;omega)),by go_num,pF5,bw5⟩
       case measure=>simp [intOf];omega
      ·obtain rfl:t=l:=by omega
       have hlt9:¬ (t:Int)<(t:Int):=by omega
       clear hlt hle
       go_wp2
       go_roundw
       case rel=>exact ⟨i+1,by omega,by rw [HO4.out]<;>(try (congr 1;omega)),by go_num,pF5,bw5⟩
       case measure=>simp [intOf];omega
   ·have qe:((qt:Int) == (rt:Int))=false:=by simp;omega
    have HO2:Hid (leastT ok th (i+1)=l):=by rw [Hid,HL.out,HO.out];simp [heq]
    clear HO HL kW heq
    go_quiet (fail)
    go_wp2
    go_quiet (fail)
    go_wp2
    go_roundw
    case rel=>exact ⟨i+1,by omega,by rw [HO2.out],by go_num,pF3.out.drewN _,bel_trans bw3 (below_dN _)⟩
    case measure=>simp [intOf];omega
  ·obtain rfl:i=n:=by omega
   go_wp2
   go_ret
   exact ⟨rfl,bw⟩


theorem l05Event_raw (b9 off9 cap b0 o0 c0:Nat) (a1:Option Addr) (n1 c1:Nat) (a2:Option Addr) (n2 c2:Nat) (a3:Option Addr) (n3 c3:Nat) (k p b off n c:Nat) (x0 x1 x2:Int) (w:World) (hk:k<3) (hp:p<n) (hx:-1000≤x1∧x1≤1000)
  (f0:w.cell? ⟨b9,off9+k,none⟩=some (.slice (some ⟨b,off,none⟩) n c)) (e1:w.cell? ⟨b0,o0+k,none⟩=some (.int .i64 p)) (q0:w.cell? ⟨b,off+p*3,none⟩=some (.int .i64 x0)) (q1:w.cell? ⟨b,off+p*3+1,none⟩=some (.int .i64 x1)) (q2:w.cell? ⟨b,off+p*3+2,none⟩=some (.int .i64 x2)) :
  Calls Tryd.prog 112 #[.agg #[.slice (some ⟨b9,off9,none⟩) 3 cap],.agg #[.slice (some ⟨b0,o0,none⟩) 3 c0,.slice a1 n1 c1,.slice a2 n2 c2,.slice a3 n3 c3],.int .i64 k] w fun e w'=>e=.returned (.agg #[.int .i64 k,.int .i64 p,.int .i64 x0,.int .i64 (objM (x0,x1,x2))])∧Below w.heap.size w w':=by
 have hk3:(k:Int)<3:=by omega
 have hpn:(p:Int)<(n:Int):=by omega
 have kO:=l05Obj_is x0 x1 x2 hx
 generalize objM (x0,x1,x2)=ob at *
 have hl0:b0<w.heap.size:=World.block_lt_of_cell? _ _ e1
 have bw:Below w.heap.size w (((w.alloc (.cells #[.slice (some ⟨b9,off9,none⟩) 3 cap] 25)).alloc (.cells #[.slice (some ⟨b0,o0,none⟩) 3 c0,.slice a1 n1 c1,.slice a2 n2 c2,.slice a3 n3 c3] 30)).alloc (.cells #[.int .i64 0,.int .i64 0,.int .i64 0,.int .i64 0] 154)):=by go_grown
 have pP:Blk (((w.alloc (.cells #[.slice (some ⟨b9,off9,none⟩) 3 cap] 25)).alloc (.cells #[.slice (some ⟨b0,o0,none⟩) 3 c0,.slice a1 n1 c1,.slice a2 n2 c2,.slice a3 n3 c3] 30)).alloc (.cells #[.int .i64 0,.int .i64 0,.int .i64 0,.int .i64 0] 154)) w.heap.size 25 [.slice (some ⟨b9,off9,none⟩) 3 cap]:=blkOld _ (blkOld _ (blkAt _ _ _ rfl))
 have pS:Blk (((w.alloc (.cells #[.slice (some ⟨b9,off9,none⟩) 3 cap] 25)).alloc (.cells #[.slice (some ⟨b0,o0,none⟩) 3 c0,.slice a1 n1 c1,.slice a2 n2 c2,.slice a3 n3 c3] 30)).alloc (.cells #[.int .i64 0,.int .i64 0,.int .i64 0,.int .i64 0] 154)) (w.heap.size+1) 30 [.slice (some ⟨b0,o0,none⟩) 3 c0,.slice a1 n1 c1,.slice a2 n2 c2,.slice a3 n3 c3]:=blkOld _ (blkAt _ _ _ (by simp))
 have pR:Blk (((w.alloc (.cells #[.slice (some ⟨b9,off9,none⟩) 3 cap] 25)).alloc (.cells #[.slice (some ⟨b0,o0,none⟩) 3 c0,.slice a1 n1 c1,.slice a2 n2 c2,.slice a3 n3 c3] 30)).alloc (.cells #[.int .i64 0,.int .i64 0,.int .i64 0,.int .i64 0] 154)) (w.heap.size+2) 154 [.int .i64 0,.int .i64 0,.int .i64 0,.int .i64 0]:=blkAt _ _ _ (by simp)
 replace f0:=cells_kept bw _ _ f0
 replace e1:=cells_kept bw _ _ e1
 replace q0:=cells_kept bw _ _ q0
 replace q1:=cells_kept bw _ _ q1
 replace q2:=cells_kept bw _ _ q2
 have cP:=pP.cell 0
 have cS:=pS.cell 0
 simp only [List.getElem?_cons_zero] at cP cS
 go_enter Tryd.func112,Tryd.ntmps112
 go_wp2_with fail
 have hX9:w.heap.size+2<(((w.alloc (.cells #[.slice (some ⟨b9,off9,none⟩) 3 cap] 25)).alloc (.cells #[.slice (some ⟨b0,o0,none⟩) 3 c0,.slice a1 n1 c1,.slice a2 n2 c2,.slice a3 n3 c3] 30)).alloc (.cells #[.int .i64 0,.int .i64 0,.int .i64 0,.int .i64 0] 154)).heap.size:=pR.lt
 generalize (((w.alloc (.cells #[.slice (some ⟨b9,off9,none⟩) 3 cap] 25)).alloc (.cells #[.slice (some ⟨b0,o0,none⟩) 3 c0,.slice a1 n1 c1,.slice a2 n2 c2,.slice a3 n3 c3] 30)).alloc (.cells #[.int .i64 0,.int .i64 0,.int .i64 0,.int .i64 0] 154))=W at *
 refine wp_region_held_drew (S:=(fun w'=>w'.cell? ⟨w.heap.size,0,none⟩=some (.slice (some ⟨b9,off9,none⟩) 3 cap)∧w'.cell? ⟨b9,off9+k,none⟩=some (.slice (some ⟨b,off,none⟩) n c)∧w'.cell? ⟨w.heap.size+1,0,none⟩=some (.slice (some ⟨b0,o0,none⟩) 3 c0)∧w'.cell? ⟨b0,o0+k,none⟩=some (.int .i64 p)∧w'.cell? ⟨b,off+p*3,none⟩=some (.int .i64 x0)∧w'.cell? ⟨b,off+p*3+1,none⟩=some (.int .i64 x1)∧w'.cell? ⟨b,off+p*3+2,none⟩=some (.int .i64 x2))) (by kernel_rfl) ⟨cP,f0,cS,e1,q0,q1,q2⟩ (fun hS0=>?_)
 refine tkm 0 8 (.pointer (some ⟨w.heap.size,0,none⟩)) ?_
 refine tkm 1 9 (.slice (some ⟨b9,off9,none⟩) 3 cap) ?_
 refine tkm 2 10 (.int .i64 (k:Int)) ?_
 refine tkm 3 11 (.pointer (some ⟨b9,off9+k,none⟩)) ?_
 refine tkm 4 12 (.slice (some ⟨b,off,none⟩) n c) ?_
 refine tkm 5 13 (.pointer (some ⟨w.heap.size+1,0,none⟩)) ?_
 refine tkm 6 14 (.slice (some ⟨b0,o0,none⟩) 3 c0) ?_
 refine tkm 7 15 (.int .i64 (k:Int)) ?_
 refine tkm 8 16 (.pointer (some ⟨b0,o0+k,none⟩)) ?_
 refine tkm 9 17 (.int .i64 p) ?_
 refine tkm 10 18 (.pointer (some ⟨b,off+p*3,none⟩)) ?_
 refine tkm 11 19 (.agg #[.int .i64 x0,.int .i64 x1,.int .i64 x2]) ?_
 refine tkr 12 7 (fun K hK=>?_)
 have hal:Below W.drew.heap.size W.drew (W.drew.alloc (.cells #[.int .i64 0,.int .i64 0,.int .i64 0] 103)):=by go_grown
 go_simp
 refine hK.out _ _ ?_ (fun hS1=>?_)
 ·exact ⟨cells_kept hal _ _ hS0.1,cells_kept hal _ _ hS0.2.1,cells_kept hal _ _ hS0.2.2.1,cells_kept hal _ _ hS0.2.2.2.1,cells_kept hal _ _ hS0.2.2.2.2.1,cells_kept hal _ _ hS0.2.2.2.2.2.1,cells_kept hal _ _ hS0.2.2.2.2.2.2⟩
 clear hK
 try simp only [Act.put,tka,tkb,tkc]
 refine tkz 13 (fun K hK=>?_)
 have hal2:Below W.drew.heap.size W.drew (W.drew.alloc (.cells #[.int .i64 x0,.int .i64 x1,.int .i64 x2] 103)):=by go_grown
 go_simp
 refine hK.out _ _ ?_ (fun hS2=>?_)
 ·exact ⟨cells_kept hal2 _ _ hS0.1,cells_kept hal2 _ _ hS0.2.1,cells_kept hal2 _ _ hS0.2.2.1,cells_kept hal2 _ _ hS0.2.2.2.1,cells_kept hal2 _ _ hS0.2.2.2.2.1,cells_kept hal2 _ _ hS0.2.2.2.2.2.1,cells_kept hal2 _ _ hS0.2.2.2.2.2.2⟩
 clear hK
 try simp only [Act.put,tka,tkb,tkc]
 refine wpAnyH_done (by kernel_rfl) ?_ _
 have hb:Below W.heap.size W (W.alloc (.cells #[.int .i64 x0,.int .i64 x1,.int .i64 x2] 103)).drew:=by go_grown
 have pX:Blk (W.alloc (.cells #[.int .i64 x0,.int .i64 x1,.int .i64 x2] 103)).drew W.heap.size 103 [.int .i64 x0,.int .i64 x1,.int .i64 x2]:=blkAt _ _ _ rfl
 replace bw:=bel_trans bw hb
 replace pR:=pR.below hb
 replace e1:=cells_kept hb _ _ e1
 replace cS:=cells_kept hb _ _ cS
 clear hal hal2 hS0 hS1 hS2 f0 q0 q1 q2 hb cP pP pS
 go_wp2_with fail
 generalize (W.alloc (.cells #[.int .i64 x0,.int .i64 x1,.int .i64 x2] 103)).drew=V at *
 generalize W.heap.size=X at *
 have d0:=pX.cell 0
 have d1:=pX.cell 1
 have d2:=pX.cell 2
 simp only [List.getElem?_cons_zero,List.getElem?_cons_succ] at d0 d1 d2
 have hdr:Below V.heap.size V V.drew:=by go_grown
 refine wp_region_held_drew (S:=(fun w'=>w'.cell? ⟨w.heap.size+1,0,none⟩=some (.slice (some ⟨b0,o0,none⟩) 3 c0)∧w'.cell? ⟨b0,o0+k,none⟩=some (.int .i64 p)∧w'.cell? ⟨X,0,none⟩=some (.int .i64 x0)∧w'.cell? ⟨X,1,none⟩=some (.int .i64 x1)∧w'.cell? ⟨X,2,none⟩=some (.int .i64 x2))) (by kernel_rfl) ⟨cS,e1,d0,d1,d2⟩ (fun hS0=>?_)
 refine tkm 0 20 (.int .i64 (k:Int)) ?_
 refine tkm 1 21 (.pointer (some ⟨w.heap.size+1,0,none⟩)) ?_
 refine tkm 2 22 (.slice (some ⟨b0,o0,none⟩) 3 c0) ?_
 refine tkm 3 23 (.int .i64 (k:Int)) ?_
 refine tkm 4 24 (.pointer (some ⟨b0,o0+k,none⟩)) ?_
 refine tkm 5 25 (.int .i64 p) ?_
 refine tkm 6 26 (.pointer (some ⟨X,0,none⟩)) ?_
 refine tkm 7 27 (.int .i64 x0) ?_
 refine tkm 8 28 (.agg #[.int .i64 x0,.int .i64 x1,.int .i64 x2]) ?_
 refine tkr 9 29 (fun K hK=>?_)
 go_simp
 refine (kO _).mono ?_
 rintro e U ⟨rfl,hb8⟩
 go_wp2_with fail
 refine hK.out _ _ ?_ (fun hS1=>?_)
 ·exact ⟨cells_kept hb8 _ _ hS0.1,cells_kept hb8 _ _ hS0.2.1,cells_kept hb8 _ _ hS0.2.2.1,cells_kept hb8 _ _ hS0.2.2.2.1,cells_kept hb8 _ _ hS0.2.2.2.2⟩
 clear hK
 refine tkm 10 30 (.agg #[.int .i64 (k:Int),.int .i64 p,.int .i64 x0,.int .i64 ob]) ?_
 replace pR:=pR.below (bel_trans hdr hb8)
 replace bw:=bel_trans bw (bel_trans hdr hb8)
 refine tkz 11 (fun K hK=>?_)
 refine step_store_blkD rfl 154 _ _ rfl (w.heap.size+2) [.int .i64 (k:Int),.int .i64 p,.int .i64 x0,.int .i64 ob] rfl rfl pR (by kernel_rfl) rfl rfl ?_
 intro U2 pR2 g2
 have bz:=bw.grown g2 bw.size (fun j hj=>by cases hj;omega)
 have n0:(some (w.heap.size+1):Option Nat)≠some (w.heap.size+2):=by simp
 have n1:(some b0:Option Nat)≠some (w.heap.size+2):=by simp;omega
 have n2:(some X:Option Nat)≠some (w.heap.size+2):=by simp;omega
 refine hK.out _ _ ⟨cell_grownB g2 hS1.1 n0,cell_grownB g2 hS1.2.1 n1,cell_grownB g2 hS1.2.2.1 n2,cell_grownB g2 hS1.2.2.2.1 n2,cell_grownB g2 hS1.2.2.2.2 n2⟩ (fun hS2=>?_)
 clear hK
 try simp only [Act.put,tka,tkb,tkc]
 refine wpAnyH_done (by kernel_rfl) ?_ _
 clear hS0 hS1 hS2 n0 n1 n2 g2 bw pR hdr hb8 kO d0 d1 d2 e1 pX cS
 go_wp2_with fail
 refine bodyPost_ret (results_blk1 Tryd.results112 _ _ _ _ _ _ rfl pR2.out Tryd.underlying154 rfl (by kernel_rfl)) rfl ?_
 exact ⟨rfl,bz⟩

theorem l05Event_is {w:World} {a9:Option Addr} {cap:Nat} {cs:Sl × Sl × Sl} {rows:List (List I3)} {s:S4} {m:V4} (hR:RowsAt w a9 cs rows) (h:Vmem w s m) (hp:progOk rows=true) (hs:shapeOk m=true) {k:Nat} (hk:k<3) (hd:doneM rows m k=false) :
  Calls Tryd.prog 112 #[.agg #[.slice a9 3 cap],s.val,.int .i64 k] w fun e w'=>e=.returned (.agg #[.int .i64 (eventM rows m k).1,.int .i64 (eventM rows m k).2.1,.int .i64 (eventM rows m k).2.2.1,.int .i64 (eventM rows m k).2.2.2])∧Below w.heap.size w w':=by
 obtain ⟨p,ep,hlt,hi,hok⟩:=at_ins hp hs hk hd
 obtain ⟨b9,off9,rfl,_,hrow⟩:=hR
 obtain ⟨f0,hI⟩:=hrow k hk
 obtain ⟨b,off,ea,hpn,q0,q1,q2⟩:=ins_at hI hlt
 rw [← hi] at q0 q1 q2
 rw [ea] at f0
 have hm:=okI_mid hok
 obtain ⟨⟨j0,_⟩,_⟩:=h
 obtain ⟨l0,_⟩:=shape_parts hs
 obtain ⟨⟨a0,n0,c0⟩,⟨a1,n1,c1⟩,⟨a2,n2,c2⟩,⟨a3,n3,c3⟩⟩:=s
 simp only at j0
 obtain ⟨rfl,b0,o0,rfl⟩:=some_of_ints j0 l0 (by decide)
 have r1:=ints_at9 j0 (t:=k) hk
 rw [ep] at r1
 unfold eventM
 rw [ep]
 generalize insM rows m k=x at *
 obtain ⟨x0,x1,x2⟩:=x
 exact l05Event_raw b9 off9 cap b0 o0 c0 a1 n1 c1 a2 n2 c2 a3 n3 c3 k p b off _ _ x0 x1 x2 w hk hpn hm f0 r1 q0 q1 q2


def RunGot (e:Ending) (w:World) (B:Nat) (z:V4) (fs:List I3) (c:Int):Prop:=∃ (t:S4) (v:Value),e=.returned (.tuple #[t.val,v,.int .i64 c])∧OwnV w B t z∧w.ownsRow B 40 3 v fs.length (flat fs)
theorem RunGot.mk9 {e:Ending} {w:World} {B:Nat} {z:V4} {fs:List I3} {c:Int} (t:S4) (v:Value) (he:e=.returned (.tuple #[t.val,v,.int .i64 c])) (h1:OwnV w B t z) (h2:w.ownsRow B 40 3 v fs.length (flat fs)):RunGot e w B z fs c:=⟨t,v,he,h1,h2⟩
end Go.Proofs.YtjgffnlmjmibgaaDoor
