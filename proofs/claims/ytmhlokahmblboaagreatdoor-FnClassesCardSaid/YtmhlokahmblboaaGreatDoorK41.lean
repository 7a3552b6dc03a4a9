/-
  Joined: ClkI, LstI, EvD, EvE.
-/
import Derived.Test.YtmhlokahmblboaaGreatDoorK32
import Derived.Test.YtmhlokahmblboaaGreatDoorK40

namespace Go.Proofs.YtmhlokahmblboaaGreatDoor
set_option maxRecDepth 100000
set_option maxHeartbeats 16000000
open Go.RowKit
set_option linter.unusedVariables false
set_option linter.unusedSimpArgs false

theorem MB:(Tryz.prog.info? 142).map (fun i=>(i.zero,i.size,i.bytes))=some (some (.agg #[.int .i64 0,.int .i64 0,.int .i64 0]),3,24):=by kernel_rfl
def Xx (n:Nat) (c:Nat→Nat→Nat):List Value:=tab (n*3) fun j=>.int .i64 (c (j / 3) (j % 3):Nat)
theorem P2 {n i t:Nat} (hi:i<n) (ht:t<3):i*3+t<n*3∧(i*3+t) / 3=i∧(i*3+t) % 3=t:=by omega
theorem Xd {n i t:Nat} (c:Nat→Nat→Nat) (hi:i<n) (ht:t<3):(Xx n c)[i*3+t]?=some (.int .i64 (c i t:Nat)):=by
 obtain ⟨h1,h2,h3⟩:=P2 hi ht
 unfold Xx
 rw [Wu _ h1,h2,h3]
theorem X7 {n:Nat} {c d:Nat→Nat→Nat} (h:∀ i t,i<n→t<3→c i t=d i t):Xx n c=Xx n d:=by
 refine XI (fun j hj=>?_)
 rw [h (j / 3) (j % 3) (by omega) (by omega)]
theorem TV {n i t:Nat} (c:Nat→Nat→Nat) (v:Nat) (hi:i<n) (ht:t<3):(Xx n c).set (i*3+t) (.int .i64 (v:Nat))=Xx n (fun k u=>if k=i∧u=t then v else c k u):=by
 unfold Xx
 rw [TW]
 refine XI (fun j hj=>?_)
 by_cases e:j=i*3+t
 ·subst e
  obtain ⟨_,h2,h3⟩:=P2 hi ht
  rw [if_pos rfl,h2,h3]
  simp only [and_self,if_true]
 rw [if_neg e]
 have e9:¬ (j / 3=i∧j % 3=t):=by omega
 simp only [if_neg e9]
theorem Jo {n i:Nat} (c:Nat→Nat→Nat) (f:Nat→Nat) (hi:i<n):set3 (Xx n c) (i*3) (.int .i64 (f 0:Nat)) (.int .i64 (f 1:Nat)) (.int .i64 (f 2:Nat))=Xx n (fun k u=>if k=i then f u else c k u):=by
 unfold set3
 have e0:=TV c (f 0) hi (show 0<3 by omega)
 rw [Nat.add_zero] at e0
 rw [e0,TV _ (f 1) hi (by omega),TV _ (f 2) hi (by omega)]
 refine X7 (fun k u hk hu=>?_)
 by_cases e:k=i
 ·subst e
  match u,hu with
  | 0,_=>simp
  | 1,_=>simp
  | 2,_=>simp
 simp [e]
theorem P8 (D:Nat→Nat→Bool) (th:Nat→Nat) (t:Nat):∀ n j,n≤j→X1 D th n j t=0
 | 0,_,_=>rfl
 | n+1,j,h=>by
  show (if j=n then _ else _)=_
  rw [if_neg (by omega)]
  exact P8 D th t n j (by omega)
theorem VX {D:Nat→Nat→Bool} {k t B:Nat} {prev:Nat→Nat→Nat} (h:∀ j,prev j t≤B):∀ n,YF D k prev t n≤B
 | 0=>Nat.zero_le _
 | n+1=>by
  have ih:=VX (D:=D) (k:=k) h n
  show (if D n k then Nat.max _ _ else _)≤B
  split
  ·exact Nat.max_le.2 ⟨ih,h n⟩
  exact ih
theorem Ro (D:Nat→Nat→Bool) (th:Nat→Nat) (t:Nat):∀ n j,X1 D th n j t≤n
 | 0,_=>Nat.le_refl _
 | n+1,j=>by
  show (if j=n then _ else _)≤_
  have ih:=Ro D th t n
  split
  ·have:=VX (D:=D) (k:=n) (prev:=X1 D th n) ih n
   split<;>omega
  have:=ih j;omega
def Jv (e:Ending) (w w':World) (n:Nat) (c:Nat→Nat→Nat):Prop:=∃ g,e=.returned (.slice (some ⟨g,0,none⟩) n n)∧Blk w' g 142 (Xx n c)∧w.heap.size≤g∧Below w.heap.size w w'
theorem RI (D:Nat→Nat→Bool) (k:Nat) (prev:Nat→Nat→Nat) (t n:Nat):YF D k prev t (n+1)=if D n k then Nat.max (YF D k prev t n) (prev n t) else YF D k prev t n:=rfl
theorem L8 (D:Nat→Nat→Bool) (th:Nat→Nat) (n j t:Nat):X1 D th (n+1) j t=if j=n then YF D n (X1 D th n) t n+(if t=th n then 1 else 0) else X1 D th n j t:=rfl
def onC (D:Nat→Nat→Bool) (th:Nat→Nat) (i j k t:Nat):Nat:=if k=i then YF D i (X1 D th i) t j else X1 D th i k t
theorem Rw {w0 w:World} {a:Option Addr} {n:Nat} {es:List I4} (h:Evs w0 a n es) (hb:Below w0.heap.size w0 w) {k:Nat} (hk:k<n):∃ ge,a=some ⟨ge,0,none⟩∧ge<w0.heap.size∧w.rangeAt ge (k*4) [.int .i64 (Xv es k).1,.int .i64 (Xv es k).2.1,.int .i64 (Xv es k).2.2.1,.int .i64 (Xv es k).2.2.2]:=by
 obtain ⟨ge,e,hg,c0,c1,c2,c3⟩:=To h hb hk
 refine ⟨ge,e,hg,fun j v hj=>?_⟩
 match j,hj with
 | 0,hj=>simp at hj;rw [← hj];exact c0
 | 1,hj=>simp at hj;rw [← hj];exact c1
 | 2,hj=>simp at hj;rw [← hj];exact c2
 | 3,hj=>simp at hj;rw [← hj];exact c3
 | j+4,hj=>simp at hj

theorem P9 (a:Option Addr) (n c:Nat) (es:List I4) (w:World) (h:Evs w a n es) (hn:n≤4096) (hnc:n≤c) (hI:YH es) :
  Calls Tryz.prog 73 #[.slice a n c] w fun e w'=>Jv e w w' n (clk (Z8 es) (thE es)):=by
 obtain ⟨i0,hi9,hz0,hz1,hz2⟩:=info_parts MB
 unfold Jv
 obtain ⟨D,hD⟩:∃ D,D=Z8 es:=⟨_,rfl⟩
 obtain ⟨th,hT⟩:∃ th,th=thE es:=⟨_,rfl⟩
 rw [← hD,← hT]
 have HD:Hid (D=Z8 es∧th=thE es):=⟨hD,hT⟩
 clear hD hT
 go_enter Tryz.func73,Tryz.ntmps73
 go_wp2_with (at_make;refine wpList_make_full _ rfl _ _ 139 rfl w.heap.size 142 i0 (.agg #[.int .i64 0,.int .i64 0,.int .i64 0]) 3 Tryz.underlying139 hi9 hz0 hz1 _ _ _ _ n rfl rfl rfl rfl ?b2 ?b3 ?b4 ?_)
 case b2=>rw [hz2];omega
 case b3=>unfold maxLen;omega
 case b4=>exact Nat.le_refl _
 intro w1 hown hgrow
 rw [KT] at hown
 have bw:Below w.heap.size w w1:=⟨hgrow.os,hgrow.tape,hgrow.output,hgrow.size,fun k hk=>hgrow.block k hk (by simp)⟩
 have pT:Hid (Blk w1 w.heap.size 142 (Xx n (X1 D th 0))):=(VR hown).1
 clear hown hgrow
 obtain ⟨g,hg⟩:∃ g,g=w.heap.size:=⟨_,rfl⟩
 have hgw:w.heap.size≤g:=by omega
 rw [← hg] at pT ⊢
 clear hg
 go_wp2_with fail
 go_loopw [13] (fun sk wr=>∃ i:Nat,i≤n∧sk=.int .i64 i∧Hid (Blk wr g 142 (Xx n (X1 D th i)))∧Below w.heap.size w wr) (fun sk _=>n - (intOf sk).toNat)
 case atStart=>exact ⟨0,by omega,rfl,pT,bw⟩
 case round =>
  clear pT bw
  obtain ⟨i,hi,rfl,pT,bw⟩:=hrel
  by_cases hin:i<n
  ·have hin':(i:Int)<(n:Int):=by omega
   have hi0:(0:Int)≤(i:Int):=by omega
   obtain ⟨ge,rfl,hgl,hrg⟩:=Rw h bw hin
   have hDi:∀ j,D j i=Z9 (Xv es j) (Xv es i):=fun j=>by rw [HD.out.1];rfl
   have hti:(th i:Int)=(Xv es i).1:=by rw [HD.out.2];exact Wv hI i
   have ht3:th i<3:=by rw [HD.out.2];exact Xt hI i
   generalize Xv es i=x at hrg hDi hti
   obtain ⟨x0,x1,x2,x3⟩:=x
   simp only at hrg hti
   have pN:=Blk.new wr 135 [.int .i64 0,.int .i64 0,.int .i64 0,.int .i64 0]
   have ha:Below wr.heap.size wr (wr.alloc (.cells #[.int .i64 0,.int .i64 0,.int .i64 0,.int .i64 0] 135)):=by go_grown
   go_wp2_with (first | refine wpList_load_mid rfl 135 _ rfl ge (i*4) rfl [.int .i64 x0,.int .i64 x1,.int .i64 x2,.int .i64 x3] _ hrg Tryz.underlying135 rfl (by kernel_rfl) ?_ | refine Zd rfl 135 _ _ rfl wr.heap.size [.int .i64 x0,.int .i64 x1,.int .i64 x2,.int .i64 x3] rfl rfl pN (by kernel_rfl) rfl rfl ?_)
   intro W pX g1
   have hgr:=pT.out.lt
   have pT1:Hid (Blk W g 142 (Xx n (onC D th i 0))):=by
    have e:Xx n (onC D th i 0)=Xx n (X1 D th i):=X7 (fun k t _ _=>by
     unfold onC
     split
     ·rename_i e;subst e;rw [P8 D th t k k (Nat.le_refl _)];rfl
     rfl)
    unfold Hid
    rw [e]
    exact (pT.out.below ha).kept g1 (by simp;omega)
   have bw1:=(Zb bw ha).grown g1 (Nat.le_trans bw.size ha.size) (fun k e=>by cases e;exact bw.size)
   have hgX:wr.heap.size<W.heap.size:=pX.out.lt
   have hgg:g<wr.heap.size:=hgr
   have hwg:=bw.size
   clear pN ha g1 hrg pT bw hgr
   generalize wr.heap.size=gX at *
   have hic:i≤c:=by omega
   have hc0:¬ c=0:=by omega
   go_wp2_with fail
   go_loopw [22] (fun sj wr=>∃ j:Nat,j≤i∧sj=.int .i64 j∧Hid (Blk wr g 142 (Xx n (onC D th i j)))∧Hid (Blk wr gX 135 [.int .i64 x0,.int .i64 x1,.int .i64 x2,.int .i64 x3])∧Below w.heap.size w wr) (fun sj _=>i - (intOf sj).toNat)
   case atStart=>exact ⟨0,by omega,rfl,pT1,pX,bw1⟩
   case round =>
    clear pT1 bw1 pX hgX
    obtain ⟨j,hj,rfl,pT,pX,bw⟩:=hrel
    by_cases hji:j<i
    ·have hji':(j:Int)<(i:Int):=by omega
     have hj0:(0:Int)≤(j:Int):=by omega
     have hjn':(j:Int)<(n:Int):=by omega
     obtain ⟨ge',hge',_,hrg⟩:=Rw h bw (show j<n by omega)
     cases hge'
     have hDj:=hDi j
     generalize Xv es j=y at hrg hDj
     obtain ⟨y0,y1,y2,y3⟩:=y
     simp only at hrg
     have pN:=Blk.new wr 135 [.int .i64 0,.int .i64 0,.int .i64 0,.int .i64 0]
     have ha:Below wr.heap.size wr (wr.alloc (.cells #[.int .i64 0,.int .i64 0,.int .i64 0,.int .i64 0] 135)):=by go_grown
     go_wp2_with (first | refine wpList_load_mid rfl 135 _ rfl ge (j*4) rfl [.int .i64 y0,.int .i64 y1,.int .i64 y2,.int .i64 y3] _ hrg Tryz.underlying135 rfl (by kernel_rfl) ?_ | refine Zd rfl 135 _ _ rfl wr.heap.size [.int .i64 y0,.int .i64 y1,.int .i64 y2,.int .i64 y3] rfl rfl pN (by kernel_rfl) rfl rfl ?_)
     intro W pY g1
     have hgr:=pT.out.lt
     have hxr:=pX.out.lt
     have pT1:Hid (Blk W g 142 (Xx n (onC D th i j))):=(pT.out.below ha).kept g1 (by simp;omega)
     have pX1:=(pX.out.below ha).kept g1 (by simp;omega)
     have bw1:=(Zb bw ha).grown g1 (Nat.le_trans bw.size ha.size) (fun k e=>by cases e;exact bw.size)
     have pY1:=pY.out
     clear pN ha g1 hrg pT bw pX pY hgr hxr
     generalize wr.heap.size=gY at *
     go_wp2_with (first | refine Zc rfl 135 _ rfl gY rfl pY1 _ Tryz.underlying135 rfl (by kernel_rfl) ?_ | refine Zc rfl 135 _ rfl gX rfl pX1 _ Tryz.underlying135 rfl (by kernel_rfl) ?_)
     refine (VV (y0,y1,y2,y3) (x0,x1,x2,x3) _).mono ?_
     rintro e w2 ⟨rfl,hb⟩
     rw [← hDj]
     have pT2:Hid (Blk w2 g 142 (Xx n (onC D th i j))):=pT1.out.below hb
     have pX2:Hid (Blk w2 gX 135 [.int .i64 x0,.int .i64 x1,.int .i64 x2,.int .i64 x3]):=pX1.below hb
     have bw2:=Zb bw1 hb
     clear pT1 pX1 pY1 hb bw1 hDj
     cases hd:D j i
     ·have pT3:Hid (Blk w2 g 142 (Xx n (onC D th i (j+1)))):=by
       have e:Xx n (onC D th i (j+1))=Xx n (onC D th i j):=X7 (fun k t _ _=>by
        unfold onC
        rw [RI,hd]
        rfl)
       unfold Hid
       rw [e]
       exact pT2.out
      clear pT2 hd
      go_wp2
      go_roundw
      case rel=>exact ⟨j+1,by omega,by go_num,pT3,pX2,bw2⟩
      case measure=>simp [intOf];omega
     have c0:=(pT2.out.cell (j*3)).trans (Xd (t:=0) (onC D th i j) (show j<n by omega) (by omega))
     have c1:=(pT2.out.cell (j*3+1)).trans (Xd (t:=1) (onC D th i j) (show j<n by omega) (by omega))
     have c2:=(pT2.out.cell (j*3+2)).trans (Xd (t:=2) (onC D th i j) (show j<n by omega) (by omega))
     have kJ:=GZ (w:=w2.drew) (off:=i*3) pT2.out (onC D th i j i) (onC D th i j j) (Xd (t:=0) _ hin (by omega)) (Xd (t:=1) _ hin (by omega)) (Xd (t:=2) _ hin (by omega))
     rw [Jo (onC D th i j) (fun t=>max (onC D th i j i t) (onC D th i j j t)) hin] at kJ
     have eJ:Xx n (fun k u=>if k=i then max (onC D th i j i u) (onC D th i j j u) else onC D th i j k u)=Xx n (onC D th i (j+1)):=X7 (fun k t _ _=>by
      unfold onC
      rw [RI,hd]
      have ne:¬ j=i:=by omega
      by_cases e:k=i
      ·simp only [e,if_true,if_neg ne]
      simp only [if_neg e])
     rw [eJ] at kJ
     unfold ck at kJ
     clear eJ
     have kJ2:=kJ.mono (R':=fun e w'=>e=.returned (.tuple #[])∧Blk w' g 142 (Xx n (onC D th i (j+1)))∧w2.drew.grownBy w' (some g)∧w'.cell? ⟨g,j*3,none⟩=some (.int .i64 (onC D th i j j 0:Nat))∧w'.cell? ⟨g,j*3+1,none⟩=some (.int .i64 (onC D th i j j 1:Nat))∧w'.cell? ⟨g,j*3+2,none⟩=some (.int .i64 (onC D th i j j 2:Nat))) (by
      rintro e w' ⟨h1,h2,h3⟩
      have eZ:∀ t,onC D th i (j+1) j t=onC D th i j j t:=fun t=>by
       unfold onC
       rw [if_neg (show ¬ j=i by omega),if_neg (show ¬ j=i by omega)]
      have d0:=(h2.cell (j*3)).trans (Xd (t:=0) _ (show j<n by omega) (by omega))
      have d1:=(h2.cell (j*3+1)).trans (Xd (t:=1) _ (show j<n by omega) (by omega))
      have d2:=(h2.cell (j*3+2)).trans (Xd (t:=2) _ (show j<n by omega) (by omega))
      rw [eZ] at d0 d1 d2
      exact ⟨h1,h2,h3,d0,d1,d2⟩)
     clear kJ
     generalize onC D th i j j 0=z0 at *
     generalize onC D th i j j 1=z1 at *
     generalize onC D th i j j 2=z2 at *
     clear hd
     go_wp2_with fail
     go_region_held3 (fun w'=>w'.cell? ⟨g,j*3,none⟩=some (.int .i64 z0)∧w'.cell? ⟨g,j*3+1,none⟩=some (.int .i64 z1)∧w'.cell? ⟨g,j*3+2,none⟩=some (.int .i64 z2)) (first | (exact ⟨c0,c1,c2⟩) | (exact ⟨d0,d1,d2⟩) | go_keep)
      (first | (go_at_call 128;refine kJ2.mono ?_;rintro e w3 ⟨rfl,pJ,gJ,d0,d1,d2⟩))
     clear kJ2 c0 c1 c2 d0 d1 d2
     have pX3:Hid (Blk w3 gX 135 [.int .i64 x0,.int .i64 x1,.int .i64 x2,.int .i64 x3]):=pX2.out.drew.kept gJ (by simp;omega)
     have bw3:Below w.heap.size w w3:=(Zb bw2 (by go_grown)).grown gJ bw2.size (fun k e=>by cases e;exact hgw)
     have pT3:Hid (Blk w3 g 142 (Xx n (onC D th i (j+1)))):=pJ
     clear pX2 bw2 pT2 gJ pJ
     go_wp2
     go_roundw
     case rel=>exact ⟨j+1,by omega,by go_num,pT3,pX3,bw3⟩
     case measure=>simp [intOf];omega
    obtain rfl:j=i:=by omega
    subst hti
    clear hDi hic hc0
    obtain ⟨t,ht⟩:∃ t,t=th j:=⟨_,rfl⟩
    have HTt:Hid (t=th j):=ht
    rw [← ht] at ht3 pX
    clear ht
    have cX:=pX.out.cell 0
    simp only [List.getElem?_cons_zero] at cX
    have c0:=(pT.out.cell (j*3+t)).trans (Xd _ hin ht3)
    have f0:=pT.out.frozen (j*3+t)
    have eV:onC D th j j j t=YF D j (X1 D th j) t j:=by unfold onC;rw [if_pos rfl]
    rw [eV] at c0
    have hvb:=VX (D:=D) (k:=j) (prev:=X1 D th j) (t:=t) (fun q=>Ro D th t j q) j
    have pT2:=pT.out.set (j*3+t) (.int .i64 (YF D j (X1 D th j) t j+1:Nat))
    rw [TV _ _ hin ht3] at pT2
    have e2:Xx n (fun k u=>if k=j∧u=t then YF D j (X1 D th j) t j+1 else onC D th j j k u)=Xx n (X1 D th (j+1)):=X7 (fun k u _ _=>by
     rw [L8]
     unfold onC
     by_cases e:k=j
     ·simp only [e,true_and,if_true]
      by_cases e':u=t
      ·subst e'
       rw [if_pos rfl,if_pos HTt.out]
      rw [if_neg e',if_neg (fun q=>e' (q.trans HTt.out.symm)),Nat.add_zero]
     simp only [e,false_and,if_false])
    rw [e2] at pT2
    clear e2 eV pT
    generalize YF D j (X1 D th j) t j=v at *
    have hw9:IntKind.i64.wrap ((v:Int)+1)=((v+1:Nat):Int):=by
     rw [IntWalk.i64_in _ ⟨by omega,by omega⟩]
     omega
    have ht9:(t:Int)<3:=by omega
    have ht8:(0:Int)≤(t:Int):=by omega
    clear pX
    go_wp2_with fail
    go_region
    have pT3:Hid (Blk ((wr.setCell ⟨g,j*3+t,none⟩ (.int .i64 (v+1:Nat))).drew) g 142 (Xx n (X1 D th (j+1)))):=pT2
    have bw3:Below w.heap.size w ((wr.setCell ⟨g,j*3+t,none⟩ (.int .i64 (v+1:Nat))).drew):=Zb (bw.setCell hgw _) (by go_grown)
    clear pT2 bw hw9 c0 f0 cX
    go_wp2
    go_roundw
    case rel=>exact ⟨j+1,by omega,by go_num,pT3,bw3⟩
    case measure=>simp [intOf];omega
  obtain rfl:i=n:=by omega
  have pT2:Blk wr g 142 (Xx i (clk D th)):=by
   have e:Xx i (clk D th)=Xx i (X1 D th i):=X7 (fun k t hk _=>(Rp D th k t i hk).symm)
   rw [e]
   exact pT.out
  clear pT
  go_wp2
  go_ret
  exact ⟨g,rfl,pT2,hgw,bw⟩


theorem Su (f:Nat→Value):tab 3 f=[f 0,f 1,f 2]:=rfl
def UO (f:Nat→Nat) (t u:Nat):Nat:=f u+(if u=t then 1 else 0)
theorem G6 (D:Nat→Nat→Bool) (th:Nat→Nat) (f:Nat→Nat) (k:Nat):okN D th f k=(decide (clk D th k (th k)=UO f (th k) (th k)) && inC (clk D th k) (UO f (th k))):=by
 unfold okN inC UO
 simp only [if_true]
theorem NG (ok:Nat→Bool) (th:Nat→Nat) (n:Nat):ZQ ok th (n+1)=if ok n then Nat.min (ZQ ok th n) (th n) else ZQ ok th n:=rfl
theorem VE {ok:Nat→Bool} {th:Nat→Nat}:∀ n,ZQ ok th n≤3
 | 0=>Nat.le_refl _
 | n+1=>by
  rw [NG]
  have:=VE (ok:=ok) (th:=th) n
  split
  ·exact Nat.le_trans (Nat.min_le_left _ _) this
  exact this

theorem RN (a:Option Addr) (n c g:Nat) (es:List I4) (w:World) (h:Evs w a n es) (hn:n≤4096) (hI:YH es) (hB:Blk w g 142 (Xx n (clk (Z8 es) (thE es)))) (f:Nat→Nat) (hf:∀ t,f t≤5000) :
  Calls Tryz.prog 74 #[.slice a n c,.slice (some ⟨g,0,none⟩) n n,ck f] w fun e w'=>e=.returned (.int .i64 (ZQ (okN (Z8 es) (thE es) f) (thE es) n:Nat))∧Below w.heap.size w w':=by
 obtain ⟨D,hD⟩:∃ D,D=Z8 es:=⟨_,rfl⟩
 obtain ⟨th,hT⟩:∃ th,th=thE es:=⟨_,rfl⟩
 rw [← hD,← hT] at hB ⊢
 have HT:Hid (th=thE es):=hT
 clear hD hT
 unfold ck
 have pF:=Blk.new w 142 [.int .i64 (f 0:Nat),.int .i64 (f 1:Nat),.int .i64 (f 2:Nat)]
 have bw:Below w.heap.size w (w.alloc (.cells #[.int .i64 (f 0:Nat),.int .i64 (f 1:Nat),.int .i64 (f 2:Nat)] 142)):=by go_grown
 have hgl9:=hB.lt
 obtain ⟨gF,hgF⟩:∃ gF,gF=w.heap.size:=⟨_,rfl⟩
 have HgF:Hid (gF=w.heap.size):=hgF
 rw [← hgF] at pF
 have hgFw:w.heap.size≤gF:=by omega
 have hgg:g<gF:=by omega
 obtain ⟨ok,hok⟩:∃ ok,ok=okN D th f:=⟨_,rfl⟩
 rw [← hok]
 have HK:Hid (ok=okN D th f):=hok
 clear hok hgF
 go_enter Tryz.func74,Tryz.ntmps74
 go_wp2_with fail
 rw [← HgF.out]
 generalize w.alloc (.cells #[.int .i64 (f 0:Nat),.int .i64 (f 1:Nat),.int .i64 (f 2:Nat)] 142)=U at *
 go_wp2_with fail
 go_loopw [7,14] (fun sl si wr=>∃ i:Nat,i≤n∧sl=.int .i64 (ZQ ok th i:Nat)∧si=.int .i64 i∧Hid (Blk wr gF 142 [.int .i64 (f 0:Nat),.int .i64 (f 1:Nat),.int .i64 (f 2:Nat)])∧Below w.heap.size w wr) (fun _ si _=>n - (intOf si).toNat)
 case atStart=>exact ⟨0,by omega,rfl,rfl,pF,bw⟩
 case round =>
  clear pF bw
  obtain ⟨i,hi,rfl,rfl,pF,bw⟩:=hrel
  by_cases hin:i<n
  ·have hin':(i:Int)<(n:Int):=by omega
   have hi0:(0:Int)≤(i:Int):=by omega
   obtain ⟨ge,rfl,hgl,hrg⟩:=Rw h bw hin
   have hti:(th i:Int)=(Xv es i).1:=by rw [HT.out];exact Wv hI i
   have ht3:th i<3:=by rw [HT.out];exact Xt hI i
   generalize Xv es i=x at hrg hti
   obtain ⟨x0,x1,x2,x3⟩:=x
   simp only at hrg hti
   subst hti
   have HL:Hid (ZQ ok th (i+1)=if ok i then Nat.min (ZQ ok th i) (th i) else ZQ ok th i):=rfl
   have hl3:=VE (ok:=ok) (th:=th) i
   have HO:Hid (ok i=(decide (clk D th i (th i)=UO f (th i) (th i)) && inC (clk D th i) (UO f (th i)))):=by rw [HK.out];exact G6 D th f i
   generalize ZQ ok th i=l at *
   obtain ⟨t,ht⟩:∃ t,t=th i:=⟨_,rfl⟩
   rw [← ht] at ht3 hrg HL HO
   clear ht
   have pN:=Blk.new wr 135 [.int .i64 0,.int .i64 0,.int .i64 0,.int .i64 0]
   have ha:Below wr.heap.size wr (wr.alloc (.cells #[.int .i64 0,.int .i64 0,.int .i64 0,.int .i64 0] 135)):=by go_grown
   go_wp2_with (first | refine wpList_load_mid rfl 135 _ rfl ge (i*4) rfl [.int .i64 (t:Int),.int .i64 x1,.int .i64 x2,.int .i64 x3] _ hrg Tryz.underlying135 rfl (by kernel_rfl) ?_ | refine Zd rfl 135 _ _ rfl wr.heap.size [.int .i64 (t:Int),.int .i64 x1,.int .i64 x2,.int .i64 x3] rfl rfl pN (by kernel_rfl) rfl rfl ?_)
   intro W pX g1
   have hfr:=pF.out.lt
   have pF1:=(pF.out.below ha).kept g1 (by simp;omega)
   have bw1:=(Zb bw ha).grown g1 (Nat.le_trans bw.size ha.size) (fun k e=>by cases e;exact bw.size)
   have pX1:=pX.out
   have hXl:=pX1.lt
   have hFX:gF<wr.heap.size:=hfr
   clear pN ha g1 hrg pX bw pF hfr
   generalize wr.heap.size=gX at *
   have pN:=Blk.new W 142 [.int .i64 0,.int .i64 0,.int .i64 0]
   have ha:Below W.heap.size W (W.alloc (.cells #[.int .i64 0,.int .i64 0,.int .i64 0] 142)):=by go_grown
   go_wp2_with (first | refine Zc rfl 142 _ rfl gF rfl pF1 _ Tryz.underlying142 rfl (by kernel_rfl) ?_ | refine Zd rfl 142 _ _ rfl W.heap.size [.int .i64 (f 0:Nat),.int .i64 (f 1:Nat),.int .i64 (f 2:Nat)] rfl rfl pN (by kernel_rfl) rfl rfl ?_)
   intro V pD g1
   have pF2:Hid (Blk V gF 142 [.int .i64 (f 0:Nat),.int .i64 (f 1:Nat),.int .i64 (f 2:Nat)]):=(pF1.below ha).kept g1 (by simp;omega)
   have pX2:=(pX1.below ha).kept g1 (by simp;omega)
   have bw2:=(Zb bw1 ha).grown g1 (Nat.le_trans bw1.size ha.size) (fun k e=>by cases e;exact bw1.size)
   have pD1:=pD.out
   have hsz:=bw1.size
   clear pN ha g1 pX1 pF1 bw1 pD
   generalize W.heap.size=gD at *
   have cX:=pX2.cell 0
   simp only [List.getElem?_cons_zero] at cX
   have ht9:(t:Int)<3:=by omega
   have ht8:(0:Int)≤(t:Int):=by omega
   have c0:=(pD1.cell t).trans ((congrArg (·[t]?) (Su fun u=>.int .i64 (f u:Nat))).symm.trans (Wu _ ht3))
   have f0:=pD1.frozen t
   have hft:=hf t
   have pD2:Hid (Blk (V.setCell ⟨gD,t,none⟩ (.int .i64 (f t+1:Nat))) gD 142 (tab 3 fun u=>.int .i64 (UO f t u:Nat))):=by
    have:=pD1.set t (.int .i64 (f t+1:Nat))
    have e:[.int .i64 (f 0:Nat),.int .i64 (f 1:Nat),.int .i64 (f 2:Nat)].set t (.int .i64 (f t+1:Nat))=tab 3 (fun u=>.int .i64 (UO f t u:Nat)):=by
     rw [← Su fun u=>.int .i64 (f u:Nat),TW]
     refine XI (fun u _=>?_)
     unfold UO
     by_cases e:u=t
     ·subst e;simp
     simp [e]
    rw [e] at this
    exact this
   have gs:V.grownBy (V.setCell ⟨gD,t,none⟩ (.int .i64 (f t+1:Nat))) (some gD):=⟨rfl,rfl,rfl,by simp,fun i _ hr=>Below.heap_setCell V ⟨gD,t,none⟩ _ i (fun e=>hr (by rw [e]))⟩
   have pF3:Hid (Blk _ gF 142 [.int .i64 (f 0:Nat),.int .i64 (f 1:Nat),.int .i64 (f 2:Nat)]):=pF2.out.kept gs (by simp;omega)
   have pX3:=pX2.kept gs (by simp;omega)
   have bw3:=bw2.grown gs bw2.size (fun k e=>by cases e;omega)
   clear pF2 pX2 bw2 pD1 gs
   rw [show ((f t+1:Nat):Int)=(f t:Int)+1 from rfl] at pD2 pF3 pX3 bw3
   go_wp2_with fail
   generalize V.setCell ⟨gD,t,none⟩ (.int .i64 ((f t:Int)+1))=V2 at *
   clear cX c0 f0
   have cX:=pX3.cell 0
   simp only [List.getElem?_cons_zero] at cX
   have pB:=hB.below bw3
   have kt:=(pB.cell (i*3+t)).trans (Xd _ hin ht3)
   have dt:=(pD2.out.cell t).trans (Wu _ ht3)
   have kk:∀ u,u<3→V2.cell? ⟨g,i*3+u,none⟩=some (.int .i64 (clk D th i u:Nat)):=fun u hu=>(pB.cell (i*3+u)).trans (Xd _ hin hu)
   have dd:∀ u,u<3→V2.cell? ⟨gD,u,none⟩=some (.int .i64 (UO f t u:Nat)):=fun u hu=>(pD2.out.cell u).trans (Wu _ hu)
   have k0:=kk 0 (by omega)
   have k1:=kk 1 (by omega)
   have k2:=kk 2 (by omega)
   have e0:=dd 0 (by omega)
   have e1:=dd 1 (by omega)
   have e2:=dd 2 (by omega)
   rw [Nat.add_zero] at k0
   have kW:=fun W=>Jt (clk D th i) (UO f t) W
   unfold ck at kW
   clear pB kk dd pX3 pD2
   obtain ⟨o2,ho2⟩:∃ o2,o2=inC (clk D th i) (UO f t):=⟨_,rfl⟩
   rw [← ho2] at kW HO
   clear ho2
   generalize clk D th i 0=q0 at *
   generalize clk D th i 1=q1 at *
   generalize clk D th i 2=q2 at *
   generalize UO f t 0=r0 at *
   generalize UO f t 1=r1 at *
   generalize UO f t 2=r2 at *
   generalize clk D th i t=qt at *
   generalize UO f t t=rt at *
   by_cases heq:qt=rt
   ·subst heq
    have qe:((qt:Int) == (qt:Int))=true:=by simp
    have HO2:Hid (ok i=o2):=by rw [Hid,HO.out];simp
    clear HO
    go_quiet (fail)
    have bw4:Below w.heap.size w (V2.drewN nq):=Zb bw3 (Z3 nq)
    have pF4:Hid (Blk (V2.drewN nq) gF 142 [.int .i64 (f 0:Nat),.int .i64 (f 1:Nat),.int .i64 (f 2:Nat)]):=pF3.out.drewN nq
    have cX4:(V2.drewN nq).cell? ⟨gX,0,none⟩=some (.int .i64 (t:Int)):=cX
    have k0':(V2.drewN nq).cell? ⟨g,i*3,none⟩=some (.int .i64 (q0:Nat)):=k0
    have k1':(V2.drewN nq).cell? ⟨g,i*3+1,none⟩=some (.int .i64 (q1:Nat)):=k1
    have k2':(V2.drewN nq).cell? ⟨g,i*3+2,none⟩=some (.int .i64 (q2:Nat)):=k2
    have e0':(V2.drewN nq).cell? ⟨gD,0,none⟩=some (.int .i64 (r0:Nat)):=e0
    have e1':(V2.drewN nq).cell? ⟨gD,1,none⟩=some (.int .i64 (r1:Nat)):=e1
    have e2':(V2.drewN nq).cell? ⟨gD,2,none⟩=some (.int .i64 (r2:Nat)):=e2
    clear bw3 pF3 cX k0 k1 k2 e0 e1 e2 kt dt
    generalize V2.drewN nq=V3 at *
    go_wp2_with fail
    go_region_held3 (fun w'=>w'.cell? ⟨g,i*3,none⟩=some (.int .i64 (q0:Nat))∧w'.cell? ⟨g,i*3+1,none⟩=some (.int .i64 (q1:Nat))∧w'.cell? ⟨g,i*3+2,none⟩=some (.int .i64 (q2:Nat))∧w'.cell? ⟨gD,0,none⟩=some (.int .i64 (r0:Nat))∧w'.cell? ⟨gD,1,none⟩=some (.int .i64 (r1:Nat))∧w'.cell? ⟨gD,2,none⟩=some (.int .i64 (r2:Nat))) (first | (exact ⟨k0',k1',k2',e0',e1',e2'⟩) | (refine ⟨?_,?_,?_,?_,?_,?_⟩<;>(apply Za (by assumption);assumption)) | go_keep)
     (first | (go_at_call 129;refine (kW _).mono ?_;rintro e V4 ⟨rfl,hb⟩))
    rename_i hHeld
    have hb5:Below V3.heap.size V3 V4:=Zb (by go_grown) hb
    have bw5:=Zb bw4 hb5
    have pF5:Hid (Blk V4 gF 142 [.int .i64 (f 0:Nat),.int .i64 (f 1:Nat),.int .i64 (f 2:Nat)]):=pF4.out.below hb5
    have cX5:=Za hb5 _ _ cX4
    clear hHeld k0' k1' k2' e0' e1' e2' cX4 pF4 bw4 hb hb5 kW
    cases o2
    ·have HO3:Hid (ZQ ok th (i+1)=l):=by rw [Hid,HL.out,HO2.out];simp
     clear HO2 HL
     go_wp2
     go_roundw
     case rel=>exact ⟨i+1,by omega,by rw [HO3.out],by go_num,pF5,bw5⟩
     case measure=>simp [intOf];omega
    have HO3:Hid (ZQ ok th (i+1)=Nat.min l t):=by rw [Hid,HL.out,HO2.out];simp
    clear HO2 HL
    by_cases hlt:l<t
    ·have HO4:Hid (ZQ ok th (i+1)=l):=by rw [Hid,HO3.out];exact Nat.min_eq_left (by omega)
     have hlt':(l:Int)<(t:Int):=by omega
     have hlt9:¬ (t:Int)<(l:Int):=by omega
     clear HO3 hlt
     go_wp2
     go_roundw
     case rel=>exact ⟨i+1,by omega,by rw [HO4.out]<;>(try (congr 1;omega)),by go_num,pF5,bw5⟩
     case measure=>simp [intOf];omega
    have HO4:Hid (ZQ ok th (i+1)=t):=by rw [Hid,HO3.out];exact Nat.min_eq_right (by omega)
    clear HO3
    by_cases hle:t<l
    ·have hlt':(t:Int)<(l:Int):=by omega
     have hlt9:¬ (l:Int)<(t:Int):=by omega
     clear hlt hle
     go_wp2
     go_roundw
     case rel=>exact ⟨i+1,by omega,by rw [HO4.out]<;>(try (congr 1;omega)),by go_num,pF5,bw5⟩
     case measure=>simp [intOf];omega
    obtain rfl:t=l:=by omega
    have hlt9:¬ (t:Int)<(t:Int):=by omega
    clear hlt hle
    go_wp2
    go_roundw
    case rel=>exact ⟨i+1,by omega,by rw [HO4.out]<;>(try (congr 1;omega)),by go_num,pF5,bw5⟩
    case measure=>simp [intOf];omega
   have qe:((qt:Int) == (rt:Int))=false:=by simp;omega
   have HO2:Hid (ZQ ok th (i+1)=l):=by rw [Hid,HL.out,HO.out];simp [heq]
   clear HO HL kW heq
   go_quiet (fail)
   go_wp2
   go_quiet (fail)
   go_wp2
   go_roundw
   case rel=>exact ⟨i+1,by omega,by rw [HO2.out],by go_num,pF3.out.drewN _,Zb bw3 (Z3 _)⟩
   case measure=>simp [intOf];omega
  obtain rfl:i=n:=by omega
  go_wp2
  go_ret
  exact ⟨rfl,bw⟩


theorem PH (b9 off9 cap b0 o0 c0:Nat) (a1:Option Addr) (n1 c1:Nat) (a2:Option Addr) (n2 c2:Nat) (a3:Option Addr) (n3 c3:Nat) (k p b off n c:Nat) (x0 x1 x2:Int) (w:World) (hk:k<3) (hp:p<n) (hx:-1000≤x1∧x1≤1000)
  (f0:w.cell? ⟨b9,off9+k,none⟩=some (.slice (some ⟨b,off,none⟩) n c)) (e1:w.cell? ⟨b0,o0+k,none⟩=some (.int .i64 p)) (q0:w.cell? ⟨b,off+p*3,none⟩=some (.int .i64 x0)) (q1:w.cell? ⟨b,off+p*3+1,none⟩=some (.int .i64 x1)) (q2:w.cell? ⟨b,off+p*3+2,none⟩=some (.int .i64 x2)) :
  Calls Tryz.prog 135 #[.agg #[.slice (some ⟨b9,off9,none⟩) 3 cap],.agg #[.slice (some ⟨b0,o0,none⟩) 3 c0,.slice a1 n1 c1,.slice a2 n2 c2,.slice a3 n3 c3],.int .i64 k] w fun e w'=>e=.returned (.agg #[.int .i64 k,.int .i64 p,.int .i64 x0,.int .i64 (X3 (x0,x1,x2))])∧Below w.heap.size w w':=by
 have hk3:(k:Int)<3:=by omega
 have hpn:(p:Int)<(n:Int):=by omega
 have kO:=KD x0 x1 x2 hx
 generalize X3 (x0,x1,x2)=ob at *
 have hl0:b0<w.heap.size:=World.block_lt_of_cell? _ _ e1
 have bw:Below w.heap.size w (((w.alloc (.cells #[.slice (some ⟨b9,off9,none⟩) 3 cap] 25)).alloc (.cells #[.slice (some ⟨b0,o0,none⟩) 3 c0,.slice a1 n1 c1,.slice a2 n2 c2,.slice a3 n3 c3] 74)).alloc (.cells #[.int .i64 0,.int .i64 0,.int .i64 0,.int .i64 0] 135)):=by go_grown
 have pP:Blk (((w.alloc (.cells #[.slice (some ⟨b9,off9,none⟩) 3 cap] 25)).alloc (.cells #[.slice (some ⟨b0,o0,none⟩) 3 c0,.slice a1 n1 c1,.slice a2 n2 c2,.slice a3 n3 c3] 74)).alloc (.cells #[.int .i64 0,.int .i64 0,.int .i64 0,.int .i64 0] 135)) w.heap.size 25 [.slice (some ⟨b9,off9,none⟩) 3 cap]:=Zq _ (Zq _ (Zo _ _ _ rfl))
 have pS:Blk (((w.alloc (.cells #[.slice (some ⟨b9,off9,none⟩) 3 cap] 25)).alloc (.cells #[.slice (some ⟨b0,o0,none⟩) 3 c0,.slice a1 n1 c1,.slice a2 n2 c2,.slice a3 n3 c3] 74)).alloc (.cells #[.int .i64 0,.int .i64 0,.int .i64 0,.int .i64 0] 135)) (w.heap.size+1) 74 [.slice (some ⟨b0,o0,none⟩) 3 c0,.slice a1 n1 c1,.slice a2 n2 c2,.slice a3 n3 c3]:=Zq _ (Zo _ _ _ (by simp))
 have pR:Blk (((w.alloc (.cells #[.slice (some ⟨b9,off9,none⟩) 3 cap] 25)).alloc (.cells #[.slice (some ⟨b0,o0,none⟩) 3 c0,.slice a1 n1 c1,.slice a2 n2 c2,.slice a3 n3 c3] 74)).alloc (.cells #[.int .i64 0,.int .i64 0,.int .i64 0,.int .i64 0] 135)) (w.heap.size+2) 135 [.int .i64 0,.int .i64 0,.int .i64 0,.int .i64 0]:=Zo _ _ _ (by simp)
 replace f0:=Za bw _ _ f0
 replace e1:=Za bw _ _ e1
 replace q0:=Za bw _ _ q0
 replace q1:=Za bw _ _ q1
 replace q2:=Za bw _ _ q2
 have cP:=pP.cell 0
 have cS:=pS.cell 0
 simp only [List.getElem?_cons_zero] at cP cS
 go_enter Tryz.func135,Tryz.ntmps135
 go_wp2_with fail
 have hX9:w.heap.size+2<(((w.alloc (.cells #[.slice (some ⟨b9,off9,none⟩) 3 cap] 25)).alloc (.cells #[.slice (some ⟨b0,o0,none⟩) 3 c0,.slice a1 n1 c1,.slice a2 n2 c2,.slice a3 n3 c3] 74)).alloc (.cells #[.int .i64 0,.int .i64 0,.int .i64 0,.int .i64 0] 135)).heap.size:=pR.lt
 generalize (((w.alloc (.cells #[.slice (some ⟨b9,off9,none⟩) 3 cap] 25)).alloc (.cells #[.slice (some ⟨b0,o0,none⟩) 3 c0,.slice a1 n1 c1,.slice a2 n2 c2,.slice a3 n3 c3] 74)).alloc (.cells #[.int .i64 0,.int .i64 0,.int .i64 0,.int .i64 0] 135))=W at *
 refine wp_region_held_drew (S:=(fun w'=>w'.cell? ⟨w.heap.size,0,none⟩=some (.slice (some ⟨b9,off9,none⟩) 3 cap)∧w'.cell? ⟨b9,off9+k,none⟩=some (.slice (some ⟨b,off,none⟩) n c)∧w'.cell? ⟨w.heap.size+1,0,none⟩=some (.slice (some ⟨b0,o0,none⟩) 3 c0)∧w'.cell? ⟨b0,o0+k,none⟩=some (.int .i64 p)∧w'.cell? ⟨b,off+p*3,none⟩=some (.int .i64 x0)∧w'.cell? ⟨b,off+p*3+1,none⟩=some (.int .i64 x1)∧w'.cell? ⟨b,off+p*3+2,none⟩=some (.int .i64 x2))) (by kernel_rfl) ⟨cP,f0,cS,e1,q0,q1,q2⟩ (fun hS0=>?_)
 refine tkm 0 8 (.pointer (some ⟨w.heap.size,0,none⟩)) ?_
 refine tkm 1 9 (.slice (some ⟨b9,off9,none⟩) 3 cap) ?_
 refine tkm 2 10 (.int .i64 (k:Int)) ?_
 refine tkm 3 11 (.pointer (some ⟨b9,off9+k,none⟩)) ?_
 refine tkm 4 12 (.slice (some ⟨b,off,none⟩) n c) ?_
 refine tkm 5 13 (.pointer (some ⟨w.heap.size+1,0,none⟩)) ?_
 refine tkm 6 14 (.slice (some ⟨b0,o0,none⟩) 3 c0) ?_
 refine tkm 7 15 (.int .i64 (k:Int)) ?_
 refine tkm 8 16 (.pointer (some ⟨b0,o0+k,none⟩)) ?_
 refine tkm 9 17 (.int .i64 p) ?_
 refine tkm 10 18 (.pointer (some ⟨b,off+p*3,none⟩)) ?_
 refine tkm 11 19 (.agg #[.int .i64 x0,.int .i64 x1,.int .i64 x2]) ?_
 refine tkr 12 7 (fun K hK=>?_)
 have hal:Below W.drew.heap.size W.drew (W.drew.alloc (.cells #[.int .i64 0,.int .i64 0,.int .i64 0] 122)):=by go_grown
 go_simp
 refine hK.out _ _ ?_ (fun hS1=>?_)
 ·exact ⟨Za hal _ _ hS0.1,Za hal _ _ hS0.2.1,Za hal _ _ hS0.2.2.1,Za hal _ _ hS0.2.2.2.1,Za hal _ _ hS0.2.2.2.2.1,Za hal _ _ hS0.2.2.2.2.2.1,Za hal _ _ hS0.2.2.2.2.2.2⟩
 clear hK
 try simp only [Act.put,tka,tkb,tkc]
 refine tkz 13 (fun K hK=>?_)
 have hal2:Below W.drew.heap.size W.drew (W.drew.alloc (.cells #[.int .i64 x0,.int .i64 x1,.int .i64 x2] 122)):=by go_grown
 go_simp
 refine hK.out _ _ ?_ (fun hS2=>?_)
 ·exact ⟨Za hal2 _ _ hS0.1,Za hal2 _ _ hS0.2.1,Za hal2 _ _ hS0.2.2.1,Za hal2 _ _ hS0.2.2.2.1,Za hal2 _ _ hS0.2.2.2.2.1,Za hal2 _ _ hS0.2.2.2.2.2.1,Za hal2 _ _ hS0.2.2.2.2.2.2⟩
 clear hK
 try simp only [Act.put,tka,tkb,tkc]
 refine wpAnyH_done (by kernel_rfl) ?_ _
 have hb:Below W.heap.size W (W.alloc (.cells #[.int .i64 x0,.int .i64 x1,.int .i64 x2] 122)).drew:=by go_grown
 have pX:Blk (W.alloc (.cells #[.int .i64 x0,.int .i64 x1,.int .i64 x2] 122)).drew W.heap.size 122 [.int .i64 x0,.int .i64 x1,.int .i64 x2]:=Zo _ _ _ rfl
 replace bw:=Zb bw hb
 replace pR:=pR.below hb
 replace e1:=Za hb _ _ e1
 replace cS:=Za hb _ _ cS
 clear hal hal2 hS0 hS1 hS2 f0 q0 q1 q2 hb cP pP pS
 go_wp2_with fail
 generalize (W.alloc (.cells #[.int .i64 x0,.int .i64 x1,.int .i64 x2] 122)).drew=V at *
 generalize W.heap.size=X at *
 have d0:=pX.cell 0
 have d1:=pX.cell 1
 have d2:=pX.cell 2
 simp only [List.getElem?_cons_zero,List.getElem?_cons_succ] at d0 d1 d2
 have hdr:Below V.heap.size V V.drew:=by go_grown
 refine wp_region_held_drew (S:=(fun w'=>w'.cell? ⟨w.heap.size+1,0,none⟩=some (.slice (some ⟨b0,o0,none⟩) 3 c0)∧w'.cell? ⟨b0,o0+k,none⟩=some (.int .i64 p)∧w'.cell? ⟨X,0,none⟩=some (.int .i64 x0)∧w'.cell? ⟨X,1,none⟩=some (.int .i64 x1)∧w'.cell? ⟨X,2,none⟩=some (.int .i64 x2))) (by kernel_rfl) ⟨cS,e1,d0,d1,d2⟩ (fun hS0=>?_)
 refine tkm 0 20 (.int .i64 (k:Int)) ?_
 refine tkm 1 21 (.pointer (some ⟨w.heap.size+1,0,none⟩)) ?_
 refine tkm 2 22 (.slice (some ⟨b0,o0,none⟩) 3 c0) ?_
 refine tkm 3 23 (.int .i64 (k:Int)) ?_
 refine tkm 4 24 (.pointer (some ⟨b0,o0+k,none⟩)) ?_
 refine tkm 5 25 (.int .i64 p) ?_
 refine tkm 6 26 (.pointer (some ⟨X,0,none⟩)) ?_
 refine tkm 7 27 (.int .i64 x0) ?_
 refine tkm 8 28 (.agg #[.int .i64 x0,.int .i64 x1,.int .i64 x2]) ?_
 refine tkr 9 29 (fun K hK=>?_)
 go_simp
 refine (kO _).mono ?_
 rintro e U ⟨rfl,hb8⟩
 go_wp2_with fail
 refine hK.out _ _ ?_ (fun hS1=>?_)
 ·exact ⟨Za hb8 _ _ hS0.1,Za hb8 _ _ hS0.2.1,Za hb8 _ _ hS0.2.2.1,Za hb8 _ _ hS0.2.2.2.1,Za hb8 _ _ hS0.2.2.2.2⟩
 clear hK
 refine tkm 10 30 (.agg #[.int .i64 (k:Int),.int .i64 p,.int .i64 x0,.int .i64 ob]) ?_
 replace pR:=pR.below (Zb hdr hb8)
 replace bw:=Zb bw (Zb hdr hb8)
 refine tkz 11 (fun K hK=>?_)
 refine Zt rfl 135 _ _ rfl (w.heap.size+2) [.int .i64 (k:Int),.int .i64 p,.int .i64 x0,.int .i64 ob] rfl rfl pR (by kernel_rfl) rfl rfl ?_
 intro U2 pR2 g2
 have bz:=bw.grown g2 bw.size (fun j hj=>by cases hj;omega)
 have n0:(some (w.heap.size+1):Option Nat)≠some (w.heap.size+2):=by simp
 have n1:(some b0:Option Nat)≠some (w.heap.size+2):=by simp;omega
 have n2:(some X:Option Nat)≠some (w.heap.size+2):=by simp;omega
 refine hK.out _ _ ⟨Zh g2 hS1.1 n0,Zh g2 hS1.2.1 n1,Zh g2 hS1.2.2.1 n2,Zh g2 hS1.2.2.2.1 n2,Zh g2 hS1.2.2.2.2 n2⟩ (fun hS2=>?_)
 clear hK
 try simp only [Act.put,tka,tkb,tkc]
 refine wpAnyH_done (by kernel_rfl) ?_ _
 clear hS0 hS1 hS2 n0 n1 n2 g2 bw pR hdr hb8 kO d0 d1 d2 e1 pX cS
 go_wp2_with fail
 refine bodyPost_ret (XT Tryz.results135 _ _ _ _ _ _ rfl pR2.out Tryz.underlying135 rfl (by kernel_rfl)) rfl ?_
 exact ⟨rfl,bz⟩

theorem NC {w:World} {a9:Option Addr} {cap:Nat} {cs:Sl × Sl × Sl} {rows:List (List I3)} {s:S4} {m:V4} (hR:Z6 w a9 cs rows) (h:Yk w s m) (hp:Zn rows=true) (hs:Zk m=true) {k:Nat} (hk:k<3) (hd:Z1 rows m k=false) :
  Calls Tryz.prog 135 #[.agg #[.slice a9 3 cap],s.val,.int .i64 k] w fun e w'=>e=.returned (.agg #[.int .i64 (Zz rows m k).1,.int .i64 (Zz rows m k).2.1,.int .i64 (Zz rows m k).2.2.1,.int .i64 (Zz rows m k).2.2.2])∧Below w.heap.size w w':=by
 obtain ⟨p,ep,hlt,hi,hok⟩:=X0 hp hs hk hd
 obtain ⟨b9,off9,rfl,_,hrow⟩:=hR
 obtain ⟨f0,hI⟩:=hrow k hk
 obtain ⟨b,off,ea,hpn,q0,q1,q2⟩:=T9 hI hlt
 rw [← hi] at q0 q1 q2
 rw [ea] at f0
 have hm:=Ls hok
 obtain ⟨⟨j0,_⟩,_⟩:=h
 obtain ⟨l0,_⟩:=ZT hs
 obtain ⟨⟨a0,n0,c0⟩,⟨a1,n1,c1⟩,⟨a2,n2,c2⟩,⟨a3,n3,c3⟩⟩:=s
 simp only at j0
 obtain ⟨rfl,b0,o0,rfl⟩:=Zw j0 l0 (by decide)
 have r1:=Yz j0 (t:=k) hk
 rw [ep] at r1
 unfold Zz
 rw [ep]
 generalize Yq rows m k=x at *
 obtain ⟨x0,x1,x2⟩:=x
 exact PH b9 off9 cap b0 o0 c0 a1 n1 c1 a2 n2 c2 a3 n3 c3 k p b off _ _ x0 x1 x2 w hk hpn hm f0 r1 q0 q1 q2


theorem Ja (rows:List (List I3)) (ks:List Int):VN rows Zl [] ks=((ZE rows Zl [] ks).1,Yg (ZE rows Zl [] ks).2.1 (XS rows (ZE rows Zl [] ks).1),(ZE rows Zl [] ks).2.2):=by
 have h0:([]:List I3)=Yg [] (XS rows Zl):=by unfold XS;rw [Qh];rfl
 obtain ⟨h1,h2,h3⟩:=N8 (rows:=rows) ks Zl [] [] h0
 rw [← h1,← h2] at *
 exact Prod.ext h1 (Prod.ext h3 rfl)
theorem ZP.neE {w w':World} {b B e s n:Nat} {t:S4} {m:V4} {v:Value} {xs:List Value} (h:ZP w b t m) (hv:w.ownsRow B e s v n xs) (hg:w.grownBy w' v.ownBlock) (he:3≠e):ZP w' b t m:=
 ⟨⟨World.ownsRow.kept h.1.1 hg (Yh h.1.1 hv he),World.ownsRow.kept h.1.2.1 hg (Yh h.1.2.1 hv he),World.ownsRow.kept h.1.2.2.1 hg (Yh h.1.2.2.1 hv he),World.ownsRow.kept h.1.2.2.2 hg (Yh h.1.2.2.2 hv he)⟩,h.2⟩
def GL (w wr:World) (X:Nat) (a9:Option Addr) (cap:Nat) (rows:List (List I3)) (ks:List Int) (n i:Nat) (tot:List I4) (m:V4) (fs:List I3) (es:List I4) (v:Value):Prop:=
 i≤n∧(ZE rows m fs (ks.drop i)).2.2=0∧Zk m=true∧(∃ t:S4,Blk wr X 74 (vmC t)∧ZP wr w.heap.size t m)∧wr.ownsRow w.heap.size 135 4 v es.length (Yu es)∧es++YK rows m (ks.drop i)=tot∧es.length=i∧Below w.heap.size w wr∧Blk wr w.heap.size 25 [.slice a9 3 cap]∧w.heap.size<X

theorem PI {w:World} {a9:Option Addr} {cap:Nat} {cs:Sl × Sl × Sl} {rows:List (List I3)} {la:Option Addr} {n c:Nat} {ks:List Int} (hR:Z6 w a9 cs rows) (hp:Zn rows=true) (hL:YS .i64 w la n c ks) (hn:n≤100000) :
  Calls Tryz.prog 82 #[.agg #[.slice a9 3 cap],.slice la n c] w fun e w'=>FY e w' w.heap.size (if (ZE rows Zl [] ks).2.2=0 then YK rows Zl ks else []) (ZE rows Zl [] ks).2.2∧Below w.heap.size w w':=by
 obtain ⟨i0,hi9,hz0,hz1,hz2⟩:=info_parts RF
 have hll:=hL.1
 have kN:=XV
 have kR:=fun (W:World) (b:Below w.heap.size w W)=>KC (cap:=cap) (hR.below b) hp (hL.below b) hn
 rw [Ja] at kR
 simp only at kR
 have HF0:Hid ((ZE rows Zl [] (ks.drop 0)).2.2=(ZE rows Zl [] ks).2.2):=rfl
 have HT0:Hid ([]++YK rows Zl (ks.drop 0)=YK rows Zl ks):=rfl
 obtain ⟨cd,hcd⟩:∃ cd,cd=(ZE rows Zl [] ks).2.2:=⟨_,rfl⟩
 obtain ⟨tot,htot⟩:∃ tot,tot=YK rows Zl ks:=⟨_,rfl⟩
 rw [← hcd] at HF0 kR ⊢
 rw [← htot] at HT0 ⊢
 clear hcd htot
 generalize Yg (ZE rows Zl [] ks).2.1 (XS rows (ZE rows Zl [] ks).1)=bugs9 at *
 generalize (ZE rows Zl [] ks).1=zz at *
 obtain ⟨es9,hes⟩:∃ es9,es9=(if cd=0 then tot else []):=⟨_,rfl⟩
 rw [← hes]
 have HE:Hid (es9=(if cd=0 then tot else [])):=hes
 clear hes
 have bw:Below w.heap.size w (w.alloc (.cells #[.slice a9 3 cap] 25)):=by go_grown
 have pP:Blk (w.alloc (.cells #[.slice a9 3 cap] 25)) w.heap.size 25 [.slice a9 3 cap]:=Zo _ _ _ rfl
 have hUw:w.heap.size+1≤(w.alloc (.cells #[.slice a9 3 cap] 25)).heap.size:=pP.lt
 go_enter Tryz.func82,Tryz.ntmps82
 go_wp2_with fail
 generalize (w.alloc (.cells #[.slice a9 3 cap] 25))=U at *
 refine (kN _).mono ?_
 rintro e w1 ⟨⟨⟨⟨t0a,t0n,t0c⟩,⟨t1a,t1n,t1c⟩,⟨t2a,t2n,t2c⟩,⟨t3a,t3n,t3c⟩⟩,rfl,hO⟩,hb⟩
 have ut:S4.val ((t0a,t0n,t0c),(t1a,t1n,t1c),(t2a,t2n,t2c),(t3a,t3n,t3c))=.agg #[.slice t0a t0n t0c,.slice t1a t1n t1c,.slice t2a t2n t2c,.slice t3a t3n t3c]:=rfl
 rw [ut]
 replace bw:=Zb bw hb
 replace pP:=pP.below hb
 replace hO:=hO.lowerB (B':=w.heap.size) (by omega)
 have hX1:w.heap.size<w1.heap.size:=pP.lt
 clear hb kN ut hUw
 have ha:Below w1.heap.size w1 ((w1.alloc (.cells #[.slice t0a t0n t0c,.slice t1a t1n t1c,.slice t2a t2n t2c,.slice t3a t3n t3c] 74)).alloc (.cells #[] 135)):=by go_grown
 have pS:Blk ((w1.alloc (.cells #[.slice t0a t0n t0c,.slice t1a t1n t1c,.slice t2a t2n t2c,.slice t3a t3n t3c] 74)).alloc (.cells #[] 135)) w1.heap.size 74 [.slice t0a t0n t0c,.slice t1a t1n t1c,.slice t2a t2n t2c,.slice t3a t3n t3c]:=Zq _ (Zo _ _ _ rfl)
 have q:((w1.alloc (.cells #[.slice t0a t0n t0c,.slice t1a t1n t1c,.slice t2a t2n t2c,.slice t3a t3n t3c] 74)).alloc (.cells #[] 135)).ownsRow w.heap.size 135 4 (.slice (some ⟨w1.heap.size+1,0,none⟩) 0 0) 0 []:=by
  have h9:=Yv (w1.alloc (.cells #[.slice t0a t0n t0c,.slice t1a t1n t1c,.slice t2a t2n t2c,.slice t3a t3n t3c] 74)) 135 4 w.heap.size (by simp;omega)
  simpa using h9
 replace bw:=Zb bw ha
 replace hO:=hO.below ha
 replace pP:=pP.below ha
 clear ha
 go_wp2_with (first | refine Zc rfl 25 _ rfl w.heap.size rfl pP _ Tryz.underlying25 rfl (by kernel_rfl) ?_)
 generalize (w1.alloc (.cells #[.slice t0a t0n t0c,.slice t1a t1n t1c,.slice t2a t2n t2c,.slice t3a t3n t3c] 74)).alloc (.cells #[] 135)=W2 at *
 generalize w1.heap.size+1=g0 at *
 generalize w1.heap.size=X at *
 refine (kR _ bw).mono ?_
 rintro e w3 ⟨⟨⟨⟨r0a,r0n,r0c⟩,⟨r1a,r1n,r1c⟩,⟨r2a,r2n,r2c⟩,⟨r3a,r3n,r3c⟩⟩,vr,rfl,_,_⟩,hb⟩
 have ur:S4.val ((r0a,r0n,r0c),(r1a,r1n,r1c),(r2a,r2n,r2c),(r3a,r3n,r3c))=.agg #[.slice r0a r0n r0c,.slice r1a r1n r1c,.slice r2a r2n r2c,.slice r3a r3n r3c]:=rfl
 rw [ur]
 clear ur kR
 have ha:Below w3.heap.size w3 (w3.alloc (.cells #[.slice r0a r0n r0c,.slice r1a r1n r1c,.slice r2a r2n r2c,.slice r3a r3n r3c] 74)):=by go_grown
 have hb9:=Zb hb ha
 replace bw:=Zb bw hb9
 replace hO:=hO.below hb9
 replace pP:=pP.below hb9
 replace pS:=pS.below hb9
 replace q:=Ze q hb9
 clear hb ha hb9
 by_cases hcz:cd=0
 ·have HE0:Hid (es9=tot):=by rw [Hid,HE.out,if_pos hcz]
  have HF1:Hid ((ZE rows Zl [] (ks.drop 0)).2.2=0):=by rw [Hid,HF0.out];exact hcz
  subst hcz
  clear HE HF0
  go_wp2_with fail
  generalize w3.alloc (.cells #[.slice r0a r0n r0c,.slice r1a r1n r1c,.slice r2a r2n r2c,.slice r3a r3n r3c] 74)=W3 at *
  have st:GL w W3 X a9 cap rows ks n 0 tot Zl [] [] (.slice (some ⟨g0,0,none⟩) 0 0):=⟨by omega,HF1.out,ZH,⟨((t0a,t0n,t0c),(t1a,t1n,t1c),(t2a,t2n,t2c),(t3a,t3n,t3c)),pS,hO⟩,q,HT0.out,rfl,bw,pP,hX1⟩
  clear HF1 HT0 pS hO q bw pP
  go_loopw [7,11] (fun so si wr=>∃ (i:Nat) (m:V4) (fs:List I3) (es:List I4) (vo:Value),vo=so∧si=.int .i64 i∧GL w wr X a9 cap rows ks n i tot m fs es vo) (fun _ si _=>n - (intOf si).toNat)
  case atStart=>exact ⟨0,_,_,_,_,rfl,rfl,st⟩
  case round =>
   clear st
   obtain ⟨i,m,fs,es,so,rfl,rfl,hi,hr,hs,⟨⟨⟨t0a,t0n,t0c⟩,⟨t1a,t1n,t1c⟩,⟨t2a,t2n,t2c⟩,⟨t3a,t3n,t3c⟩⟩,pS,hO⟩,q,ht,hel,bw,pP,hX1⟩:=hrel
   replace pS:Blk wr X 74 [.slice t0a t0n t0c,.slice t1a t1n t1c,.slice t2a t2n t2c,.slice t3a t3n t3c]:=pS
   by_cases hlt:i<n
   ·obtain ⟨lb,lo,rfl,hc,hlb⟩:=ME hL hlt
    replace hc:=Za bw _ _ hc
    have e9:ks.drop i=ks.getD i 0::ks.drop (i+1):=by rw [List.drop_eq_getElem_cons (by omega)];simp [List.getD,show i<ks.length by omega]
    rw [e9] at hr ht
    have hlt':(i:Int)<(n:Int):=by omega
    have hi0:(0:Int)≤(i:Int):=by omega
    have fm:=(ZO hs).1
    generalize ks.getD i 0=kk at *
    clear e9
    have hz:Zv rows m kk=0:=by
     by_cases h9:Zv rows m kk=0
     ·exact h9
     rw [show ZE rows m fs (kk::ks.drop (i+1))=(m,fs,Zv rows m kk) by show (if Zv rows m kk=0 then _ else _)=_;rw [if_neg h9]] at hr
     exact hr
    have hr2:(ZE rows (goM rows m kk).1 (fs++Yr rows m kk) (ks.drop (i+1))).2.2=0:=by
     rw [show ZE rows m fs (kk::ks.drop (i+1))=ZE rows (goM rows m kk).1 (fs++Yr rows m kk) (ks.drop (i+1)) by show (if Zv rows m kk=0 then _ else _)=_;rw [if_pos hz]] at hr
     exact hr
    obtain ⟨h0,h2,hd,hcn⟩:=ZX hz
    have hs2:=ZV hp hs hz
    obtain ⟨k,rfl⟩:∃ k:Nat,kk=k:=⟨kk.toNat,by omega⟩
    rw [Int.toNat_natCast] at hd
    have hk:k<3:=by omega
    have ht2:es++(Zz rows m k::YK rows (goM rows m (k:Int)).1 (ks.drop (i+1)))=tot:=ht
    clear hr ht hz h0 h2 hcn
    have kV:=fun (W:World) (b:Below w.heap.size w W) (h:Yk W ((t0a,t0n,t0c),(t1a,t1n,t1c),(t2a,t2n,t2c),(t3a,t3n,t3c)) m)=>NC (cap:=cap) (hR.below b) h hp hs hk hd
    have kT:=fun (W:World) (b:Below w.heap.size w W) (h:Yk W ((t0a,t0n,t0c),(t1a,t1n,t1c),(t2a,t2n,t2c),(t3a,t3n,t3c)) m)=>WJ (cap:=cap) rfl (hR.below b) h hp hs hk hd
    rw [← Wq] at kT
    have ut:S4.val ((t0a,t0n,t0c),(t1a,t1n,t1c),(t2a,t2n,t2c),(t3a,t3n,t3c))=.agg #[.slice t0a t0n t0c,.slice t1a t1n t1c,.slice t2a t2n t2c,.slice t3a t3n t3c]:=rfl
    rw [ut] at kV kT
    clear ut hd
    obtain ⟨ev,hev⟩:∃ ev,ev=Zz rows m k:=⟨_,rfl⟩
    rw [← hev] at kV ht2
    obtain ⟨v0,v1,v2,v3⟩:=ev
    simp only at kV
    clear hev
    have HT2:Hid (es++((v0,v1,v2,v3)::YK rows (goM rows m (k:Int)).1 (ks.drop (i+1)))=tot):=ht2
    have HR2:Hid ((ZE rows (goM rows m (k:Int)).1 (fs++Yr rows m (k:Int)) (ks.drop (i+1))).2.2=0):=hr2
    clear ht2 hr2
    generalize fs++Yr rows m (k:Int)=fs2 at *
    generalize (goM rows m (k:Int)).1=z at *
    generalize (goM rows m (k:Int)).2=fd at *
    go_wp2_with fail
    refine wp_region_held_drew (S:=(fun w'=>w'.cell? ⟨w.heap.size,0,none⟩=some (.slice a9 3 cap)∧w'.cell? ⟨X,0,none⟩=some (.slice t0a t0n t0c)∧w'.cell? ⟨X,1,none⟩=some (.slice t1a t1n t1c)∧w'.cell? ⟨X,2,none⟩=some (.slice t2a t2n t2c)∧w'.cell? ⟨X,3,none⟩=some (.slice t3a t3n t3c)∧w'.cell? ⟨lb,lo+i,none⟩=some (.int .i64 (k:Int)))) (by kernel_rfl) ⟨by simpa using pP.cell 0,by simpa using pS.cell 0,by simpa using pS.cell 1,by simpa using pS.cell 2,by simpa using pS.cell 3,hc⟩ (fun hS0=>?_)
    refine tkm 0 33 so ?_
    refine tkm 1 34 (.agg #[.slice a9 3 cap]) ?_
    refine tkm 2 35 (.agg #[.slice t0a t0n t0c,.slice t1a t1n t1c,.slice t2a t2n t2c,.slice t3a t3n t3c]) ?_
    refine tkm 3 36 (.slice (some ⟨lb,lo,none⟩) n c) ?_
    refine tkm 4 37 (.int .i64 (i:Int)) ?_
    refine tkm 5 38 (.pointer (some ⟨lb,lo+i,none⟩)) ?_
    refine tkm 6 39 (.int .i64 (k:Int)) ?_
    have hb9:Below wr.heap.size wr wr.drew:=by go_grown
    replace bw:=Zb bw hb9
    replace pP:=pP.below hb9
    replace pS:=pS.below hb9
    replace hO:=hO.below hb9
    replace q:=Ze q hb9
    replace hc:=Za hb9 _ _ hc
    clear hb9
    have kVx:=kV _ bw (hO.mem fm)
    clear kV
    generalize wr.drew=V at *
    refine tkr 7 40 (fun K hK=>?_)
    go_simp
    refine kVx.mono ?_
    rintro e V1 ⟨rfl,hb⟩
    replace bw:=Zb bw hb
    replace pP:=pP.below hb
    replace pS:=pS.below hb
    replace hO:=hO.below hb
    replace q:=Ze q hb
    replace hc:=Za hb _ _ hc
    clear hb kVx
    go_wp2_with fail
    refine hK.out _ _ ⟨by simpa using pP.cell 0,by simpa using pS.cell 0,by simpa using pS.cell 1,by simpa using pS.cell 2,by simpa using pS.cell 3,hc⟩ (fun hS1=>?_)
    clear hK
    try simp only [Act.put,tka,tkb,tkc]
    refine tkr 8 41 (fun K hK=>?_)
    have hb:Below V1.heap.size V1 (V1.alloc (.cells #[.int .i64 v0,.int .i64 v1,.int .i64 v2,.int .i64 v3] 135)):=by go_grown
    have pV:Blk (V1.alloc (.cells #[.int .i64 v0,.int .i64 v1,.int .i64 v2,.int .i64 v3] 135)) V1.heap.size 135 [.int .i64 v0,.int .i64 v1,.int .i64 v2,.int .i64 v3]:=Zo _ _ _ rfl
    replace bw:=Zb bw hb
    replace pP:=pP.below hb
    replace pS:=pS.below hb
    replace hO:=hO.below hb
    replace q:=Ze q hb
    replace hc:=Za hb _ _ hc
    go_simp
    refine hK.out _ _ ⟨by simpa using pP.cell 0,by simpa using pS.cell 0,by simpa using pS.cell 1,by simpa using pS.cell 2,by simpa using pS.cell 3,hc⟩ (fun hS2=>?_)
    clear hK hb
    generalize (V1.alloc (.cells #[.int .i64 v0,.int .i64 v1,.int .i64 v2,.int .i64 v3] 135))=V2 at *
    generalize V1.heap.size=G9 at *
    try simp only [Act.put,tka,tkb,tkc]
    refine tkr 9 42 (fun K hK=>?_)
    refine Y5 rfl _ _ 78 rfl w.heap.size 135 i0 (.agg #[.int .i64 0,.int .i64 0,.int .i64 0,.int .i64 0]) 4 32 Tryz.underlying78 hi9 hz0 hz1 hz2 rfl (by decide) so es.length (Yu es) rfl q ⟨G9,0,none⟩ 1 1 [.int .i64 v0,.int .i64 v1,.int .i64 v2,.int .i64 v3] rfl rfl (GT pV) (JW _ _ _ _) (by unfold maxLen;omega) (by omega) bw.size ?_
    intro v9 V3 q9 gr
    have hqb:∀ j,so.ownBlock=some j→w.heap.size≤j:=fun j hj=>(q.lt j hj).1
    replace pP:=pP.kept gr (Z4 q pP (by decide))
    replace pS:=pS.kept gr (Z4 q pS (by decide))
    replace hO:=ZP.neE hO q gr (by decide)
    replace hc:=Zh gr hc (fun e9=>by have:=hqb _ e9.symm;simp only at this;omega)
    replace bw:=bw.grown gr bw.size hqb
    refine hK.out _ _ ⟨by simpa using pP.cell 0,by simpa using pS.cell 0,by simpa using pS.cell 1,by simpa using pS.cell 2,by simpa using pS.cell 3,hc⟩ (fun hS3=>?_)
    clear hK
    try simp only [Act.put,tka,tkb,tkc]
    refine tkm 10 7 v9 ?_
    refine wpAnyH_done (by kernel_rfl) ?_ _
    have R:V3.ownsRow w.heap.size 135 4 v9 (es++[(v0,v1,v2,v3)]).length (Yu (es++[(v0,v1,v2,v3)])):=by
     rw [List.length_append,Xl]
     exact q9
    clear q q9 gr pV hS0 hS1 hS2 hS3 hqb
    have q:=R
    clear R
    have hln2:(es++[(v0,v1,v2,v3)]).length=i+1:=by rw [List.length_append,hel];rfl
    have HT3:Hid ((es++[(v0,v1,v2,v3)])++YK rows z (ks.drop (i+1))=tot):=by rw [Hid,List.append_assoc];exact HT2.out
    have HL2:Hid ((es++[(v0,v1,v2,v3)]).length=i+1):=hln2
    clear HT2 hln2
    generalize es++[(v0,v1,v2,v3)]=es2 at *
    go_wp2_with fail
    refine wp_region_held_drew (S:=(fun w'=>w'.cell? ⟨w.heap.size,0,none⟩=some (.slice a9 3 cap)∧w'.cell? ⟨X,0,none⟩=some (.slice t0a t0n t0c)∧w'.cell? ⟨X,1,none⟩=some (.slice t1a t1n t1c)∧w'.cell? ⟨X,2,none⟩=some (.slice t2a t2n t2c)∧w'.cell? ⟨X,3,none⟩=some (.slice t3a t3n t3c)∧w'.cell? ⟨lb,lo+i,none⟩=some (.int .i64 (k:Int)))) (by kernel_rfl) ⟨by simpa using pP.cell 0,by simpa using pS.cell 0,by simpa using pS.cell 1,by simpa using pS.cell 2,by simpa using pS.cell 3,hc⟩ (fun hS0=>?_)
    refine tkm 0 44 (.agg #[.slice a9 3 cap]) ?_
    refine tkm 1 45 (.agg #[.slice t0a t0n t0c,.slice t1a t1n t1c,.slice t2a t2n t2c,.slice t3a t3n t3c]) ?_
    refine tkm 2 46 (.slice (some ⟨lb,lo,none⟩) n c) ?_
    refine tkm 3 47 (.int .i64 (i:Int)) ?_
    refine tkm 4 48 (.pointer (some ⟨lb,lo+i,none⟩)) ?_
    refine tkm 5 49 (.int .i64 (k:Int)) ?_
    have hb9:Below V3.heap.size V3 V3.drew:=by go_grown
    replace bw:=Zb bw hb9
    replace pP:=pP.below hb9
    replace pS:=pS.below hb9
    replace hO:=hO.below hb9
    replace q:=Ze q hb9
    replace hc:=Za hb9 _ _ hc
    clear hb9
    generalize V3.drew=Y0 at *
    refine wpAnyH_ready (rs:=[6,10]) (by kernel_rfl) (by simp) ?_
    refine AllReadyH.cons (o:=⟨some 50,_,_,_,_,_⟩) rfl (fun K hK=>?_) (AllReadyH.cons (o:=⟨some 12,_,_,_,_,_⟩) rfl (fun K hK=>?_) AllReadyH.nil)
    ·have kFx:=kT _ bw (hO.mem fm)
     go_simp
     refine kFx.mono ?_
     rintro e Y1 ⟨⟨⟨⟨z0a,z0n,z0c⟩,⟨z1a,z1n,z1c⟩,⟨z2a,z2n,z2c⟩,⟨z3a,z3n,z3c⟩⟩,rfl,hO2⟩,hb⟩
     have uz:S4.val ((z0a,z0n,z0c),(z1a,z1n,z1c),(z2a,z2n,z2c),(z3a,z3n,z3c))=.agg #[.slice z0a z0n z0c,.slice z1a z1n z1c,.slice z2a z2n z2c,.slice z3a z3n z3c]:=rfl
     rw [uz]
     replace hO2:=hO2.lowerB (B':=w.heap.size) bw.size
     replace bw:=Zb bw hb
     replace pP:=pP.below hb
     replace pS:=pS.below hb
     replace hO:=hO.below hb
     replace q:=Ze q hb
     replace hc:=Za hb _ _ hc
     clear hb kFx uz kT
     go_wp2_with fail
     refine hK.out _ _ ⟨by simpa using pP.cell 0,by simpa using pS.cell 0,by simpa using pS.cell 1,by simpa using pS.cell 2,by simpa using pS.cell 3,hc⟩ (fun hS5=>?_)
     clear hK
     try simp only [Act.put,tka,tkb,tkc]
     refine tkm 7 43 (.tuple #[.agg #[.slice z0a z0n z0c,.slice z1a z1n z1c,.slice z2a z2n z2c,.slice z3a z3n z3c],.int .i64 fd]) ?_
     refine tkm 8 51 (.agg #[.slice z0a z0n z0c,.slice z1a z1n z1c,.slice z2a z2n z2c,.slice z3a z3n z3c]) ?_
     refine tkm 9 52 (.int .i64 fd) ?_
     refine tkr 10 12 (fun K hK=>?_)
     have hb:Below Y1.heap.size Y1 (Y1.alloc (.cells #[.slice none 0 0,.slice none 0 0,.slice none 0 0,.slice none 0 0] 74)):=by go_grown
     have pX:Blk (Y1.alloc (.cells #[.slice none 0 0,.slice none 0 0,.slice none 0 0,.slice none 0 0] 74)) Y1.heap.size 74 [.slice none 0 0,.slice none 0 0,.slice none 0 0,.slice none 0 0]:=Zo _ _ _ rfl
     have hX9:w.heap.size<Y1.heap.size∧X<Y1.heap.size:=⟨pP.lt,pS.lt⟩
     replace bw:=Zb bw hb
     replace pP:=pP.below hb
     replace pS:=pS.below hb
     replace hO:=hO.below hb
     replace q:=Ze q hb
     replace hc:=Za hb _ _ hc
     replace hO2:=hO2.below hb
     go_simp
     refine hK.out _ _ ⟨by simpa using pP.cell 0,by simpa using pS.cell 0,by simpa using pS.cell 1,by simpa using pS.cell 2,by simpa using pS.cell 3,hc⟩ (fun hS6=>?_)
     clear hK hb
     generalize (Y1.alloc (.cells #[.slice none 0 0,.slice none 0 0,.slice none 0 0,.slice none 0 0] 74))=Y2 at *
     generalize Y1.heap.size=Y at *
     try simp only [Act.put,tka,tkb,tkc]
     refine tkz 11 (fun K hK=>?_)
     refine Zt rfl 74 _ _ rfl Y [.slice z0a z0n z0c,.slice z1a z1n z1c,.slice z2a z2n z2c,.slice z3a z3n z3c] rfl rfl pX (by kernel_rfl) rfl rfl ?_
     intro V8 pX8 g8
     have m0:(some Y:Option Nat)≠some w.heap.size:=by simp;omega
     have m2:(some Y:Option Nat)≠some X:=by simp;omega
     replace hO2:=hO2.kept9 g8 pX (by decide)
     replace q:=q.kept g8 (ZI q pX (by decide))
     replace pP:=pP.kept g8 m0
     replace pS:=pS.kept g8 m2
     replace bw:=bw.grown g8 bw.size (fun j hj=>by cases hj;omega)
     replace hc:=Zh g8 hc (by simp;omega)
     refine hK.out _ _ ⟨by simpa using pP.cell 0,by simpa using pS.cell 0,by simpa using pS.cell 1,by simpa using pS.cell 2,by simpa using pS.cell 3,hc⟩ (fun hS7=>?_)
     clear hK m0 m2 pX g8 hO
     have pX:=pX8.out
     clear pX8
     try simp only [Act.put,tka,tkb,tkc]
     refine tkm 12 13 (.int .i64 fd) ?_
     refine wpAnyH_done (by kernel_rfl) ?_ _
     clear hS0 hS5 hS6 hS7 hc
     go_wp2_with (first | refine Zc rfl 74 _ rfl Y rfl pX _ Tryz.underlying74 rfl (by kernel_rfl) ?_ | refine Zd rfl 74 _ _ rfl X [.slice z0a z0n z0c,.slice z1a z1n z1c,.slice z2a z2n z2c,.slice z3a z3n z3c] rfl rfl pS (by kernel_rfl) rfl rfl ?_)
     intro V9 pS9 g9
     have m0:(some X:Option Nat)≠some w.heap.size:=by simp;omega
     replace hO2:=hO2.kept9 g9 pS (by decide)
     replace q:=q.kept g9 (ZI q pS (by decide))
     replace pP:=pP.kept g9 m0
     replace bw:=bw.grown g9 bw.size (fun j hj=>by cases hj;omega)
     have st6:GL w V9 X a9 cap rows ks n (i+1) tot z fs2 es2 v9:=⟨by omega,HR2.out,hs2,⟨((z0a,z0n,z0c),(z1a,z1n,z1c),(z2a,z2n,z2c),(z3a,z3n,z3c)),pS9.out,hO2⟩,q,HT3.out,HL2.out,bw,pP,hX1⟩
     clear q pS pS9 g9 m0 pX hO2 bw pP hs2 hs fm HR2 HT3 HL2 hX9
     go_wp2
     go_roundw
     case rel=>exact ⟨i+1,_,_,_,_,rfl,by go_num,st6⟩
     case measure=>simp [intOf];omega
    have hb:Below Y0.heap.size Y0 (Y0.alloc (.cells #[.slice none 0 0,.slice none 0 0,.slice none 0 0,.slice none 0 0] 74)):=by go_grown
    have pX:Blk (Y0.alloc (.cells #[.slice none 0 0,.slice none 0 0,.slice none 0 0,.slice none 0 0] 74)) Y0.heap.size 74 [.slice none 0 0,.slice none 0 0,.slice none 0 0,.slice none 0 0]:=Zo _ _ _ rfl
    have hX9:w.heap.size<Y0.heap.size∧X<Y0.heap.size:=⟨pP.lt,pS.lt⟩
    replace bw:=Zb bw hb
    replace pP:=pP.below hb
    replace pS:=pS.below hb
    replace hO:=hO.below hb
    replace q:=Ze q hb
    replace hc:=Za hb _ _ hc
    go_simp
    refine hK.out _ _ ⟨by simpa using pP.cell 0,by simpa using pS.cell 0,by simpa using pS.cell 1,by simpa using pS.cell 2,by simpa using pS.cell 3,hc⟩ (fun hS6=>?_)
    clear hK hb
    generalize (Y0.alloc (.cells #[.slice none 0 0,.slice none 0 0,.slice none 0 0,.slice none 0 0] 74))=Y2 at *
    generalize Y0.heap.size=Y at *
    try simp only [Act.put,tka,tkb,tkc]
    refine tkr 6 50 (fun K hK=>?_)
    have kFx:=kT _ bw (hO.mem fm)
    go_simp
    refine kFx.mono ?_
    rintro e Y3 ⟨⟨⟨⟨z0a,z0n,z0c⟩,⟨z1a,z1n,z1c⟩,⟨z2a,z2n,z2c⟩,⟨z3a,z3n,z3c⟩⟩,rfl,hO2⟩,hb⟩
    have uz:S4.val ((z0a,z0n,z0c),(z1a,z1n,z1c),(z2a,z2n,z2c),(z3a,z3n,z3c))=.agg #[.slice z0a z0n z0c,.slice z1a z1n z1c,.slice z2a z2n z2c,.slice z3a z3n z3c]:=rfl
    rw [uz]
    replace hO2:=hO2.lowerB (B':=w.heap.size) bw.size
    replace bw:=Zb bw hb
    replace pP:=pP.below hb
    replace pS:=pS.below hb
    replace hO:=hO.below hb
    replace q:=Ze q hb
    replace hc:=Za hb _ _ hc
    replace pX:=pX.below hb
    clear hb kFx uz kT
    go_wp2_with fail
    refine hK.out _ _ ⟨by simpa using pP.cell 0,by simpa using pS.cell 0,by simpa using pS.cell 1,by simpa using pS.cell 2,by simpa using pS.cell 3,hc⟩ (fun hS5=>?_)
    clear hK
    try simp only [Act.put,tka,tkb,tkc]
    refine tkm 7 43 (.tuple #[.agg #[.slice z0a z0n z0c,.slice z1a z1n z1c,.slice z2a z2n z2c,.slice z3a z3n z3c],.int .i64 fd]) ?_
    refine tkm 8 51 (.agg #[.slice z0a z0n z0c,.slice z1a z1n z1c,.slice z2a z2n z2c,.slice z3a z3n z3c]) ?_
    refine tkm 9 52 (.int .i64 fd) ?_
    refine tkz 11 (fun K hK=>?_)
    refine Zt rfl 74 _ _ rfl Y [.slice z0a z0n z0c,.slice z1a z1n z1c,.slice z2a z2n z2c,.slice z3a z3n z3c] rfl rfl pX (by kernel_rfl) rfl rfl ?_
    intro V8 pX8 g8
    have m0:(some Y:Option Nat)≠some w.heap.size:=by simp;omega
    have m2:(some Y:Option Nat)≠some X:=by simp;omega
    replace hO2:=hO2.kept9 g8 pX (by decide)
    replace q:=q.kept g8 (ZI q pX (by decide))
    replace pP:=pP.kept g8 m0
    replace pS:=pS.kept g8 m2
    replace bw:=bw.grown g8 bw.size (fun j hj=>by cases hj;omega)
    replace hc:=Zh g8 hc (by simp;omega)
    refine hK.out _ _ ⟨by simpa using pP.cell 0,by simpa using pS.cell 0,by simpa using pS.cell 1,by simpa using pS.cell 2,by simpa using pS.cell 3,hc⟩ (fun hS7=>?_)
    clear hK m0 m2 pX g8 hO
    have pX:=pX8.out
    clear pX8
    try simp only [Act.put,tka,tkb,tkc]
    refine tkm 12 13 (.int .i64 fd) ?_
    refine wpAnyH_done (by kernel_rfl) ?_ _
    clear hS0 hS5 hS6 hS7 hc
    go_wp2_with (first | refine Zc rfl 74 _ rfl Y rfl pX _ Tryz.underlying74 rfl (by kernel_rfl) ?_ | refine Zd rfl 74 _ _ rfl X [.slice z0a z0n z0c,.slice z1a z1n z1c,.slice z2a z2n z2c,.slice z3a z3n z3c] rfl rfl pS (by kernel_rfl) rfl rfl ?_)
    intro V9 pS9 g9
    have m0:(some X:Option Nat)≠some w.heap.size:=by simp;omega
    replace hO2:=hO2.kept9 g9 pS (by decide)
    replace q:=q.kept g9 (ZI q pS (by decide))
    replace pP:=pP.kept g9 m0
    replace bw:=bw.grown g9 bw.size (fun j hj=>by cases hj;omega)
    have st6:GL w V9 X a9 cap rows ks n (i+1) tot z fs2 es2 v9:=⟨by omega,HR2.out,hs2,⟨((z0a,z0n,z0c),(z1a,z1n,z1c),(z2a,z2n,z2c),(z3a,z3n,z3c)),pS9.out,hO2⟩,q,HT3.out,HL2.out,bw,pP,hX1⟩
    clear q pS pS9 g9 m0 pX hO2 bw pP hs2 hs fm HR2 HT3 HL2 hX9
    go_wp2
    go_roundw
    case rel=>exact ⟨i+1,_,_,_,_,rfl,by go_num,st6⟩
    case measure=>simp [intOf];omega
   obtain rfl:i=n:=by omega
   have hte:es=tot:=by rw [← ht,List.drop_of_length_le (by omega)];simp [YK]
   have HZ:Hid (es9=es):=HE0.out.trans hte.symm
   clear hr ht hte HE0 pS hO pP
   go_wp2
   go_ret2
   rw [HZ.out]
   exact ⟨⟨_,rfl,q⟩,bw⟩
 have hne:(cd != 0)=true:=by simp [hcz]
 have HZ:Hid (es9=[]):=by rw [Hid,HE.out,if_neg hcz]
 clear HE HF0 HT0 hcz pS hO pP
 go_wp2
 go_ret2
 rw [HZ.out]
 exact ⟨⟨_,rfl,q⟩,bw⟩
end Go.Proofs.YtmhlokahmblboaaGreatDoor
