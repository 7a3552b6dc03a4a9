/-
  Joined: ClkI, LstI.
-/
import Derived.Test.YtojcgajjnmjjpaaGreatDoorE40

namespace Go.Proofs.YtojcgajjnmjjpaaGreatDoor
set_option maxRecDepth 100000
set_option maxHeartbeats 16000000
open Go.RowKit
set_option linter.unusedVariables false
set_option linter.unusedSimpArgs false

theorem MH:(Tryz.prog.info? 128).map (fun i=>(i.zero,i.size,i.bytes))=some (some (.agg #[.int .i64 0,.int .i64 0,.int .i64 0]),3,24):=by kernel_rfl
def XB (n:Nat) (c:Nat→Nat→Nat):List Value:=tab (n*3) fun j=>.int .i64 (c (j / 3) (j % 3):Nat)
theorem P8 {n i t:Nat} (hi:i<n) (ht:t<3):i*3+t<n*3∧(i*3+t) / 3=i∧(i*3+t) % 3=t:=by omega
theorem Xg {n i t:Nat} (c:Nat→Nat→Nat) (hi:i<n) (ht:t<3):(XB n c)[i*3+t]?=some (.int .i64 (c i t:Nat)):=by
 obtain ⟨h1,h2,h3⟩:=P8 hi ht
 unfold XB
 rw [WB _ h1,h2,h3]
theorem We {n:Nat} {c d:Nat→Nat→Nat} (h:∀ i t,i<n→t<3→c i t=d i t):XB n c=XB n d:=by
 refine XM (fun j hj=>?_)
 rw [h (j / 3) (j % 3) (by omega) (by omega)]
theorem T2 {n i t:Nat} (c:Nat→Nat→Nat) (v:Nat) (hi:i<n) (ht:t<3):(XB n c).set (i*3+t) (.int .i64 (v:Nat))=XB n (fun k u=>if k=i∧u=t then v else c k u):=by
 unfold XB
 rw [T3]
 refine XM (fun j hj=>?_)
 by_cases e:j=i*3+t
 ·subst e
  obtain ⟨_,h2,h3⟩:=P8 hi ht
  rw [if_pos rfl,h2,h3]
  simp only [and_self,if_true]
 rw [if_neg e]
 have e9:¬ (j / 3=i∧j % 3=t):=by omega
 simp only [if_neg e9]
theorem Js {n i:Nat} (c:Nat→Nat→Nat) (f:Nat→Nat) (hi:i<n):set3 (XB n c) (i*3) (.int .i64 (f 0:Nat)) (.int .i64 (f 1:Nat)) (.int .i64 (f 2:Nat))=XB n (fun k u=>if k=i then f u else c k u):=by
 unfold set3
 have e0:=T2 c (f 0) hi (show 0<3 by omega)
 rw [Nat.add_zero] at e0
 rw [e0,T2 _ (f 1) hi (by omega),T2 _ (f 2) hi (by omega)]
 refine We (fun k u hk hu=>?_)
 by_cases e:k=i
 ·subst e
  match u,hu with
  | 0,_=>simp
  | 1,_=>simp
  | 2,_=>simp
 simp [e]
theorem Ng (D:Nat→Nat→Bool) (th:Nat→Nat) (t:Nat):∀ n j,n≤j→X6 D th n j t=0
 | 0,_,_=>rfl
 | n+1,j,h=>by
  show (if j=n then _ else _)=_
  rw [if_neg (by omega)]
  exact Ng D th t n j (by omega)
theorem Uc {D:Nat→Nat→Bool} {k t B:Nat} {prev:Nat→Nat→Nat} (h:∀ j,prev j t≤B):∀ n,YH D k prev t n≤B
 | 0=>Nat.zero_le _
 | n+1=>by
  have ih:=Uc (D:=D) (k:=k) h n
  show (if D n k then Nat.max _ _ else _)≤B
  split
  ·exact Nat.max_le.2 ⟨ih,h n⟩
  exact ih
theorem Rv (D:Nat→Nat→Bool) (th:Nat→Nat) (t:Nat):∀ n j,X6 D th n j t≤n
 | 0,_=>Nat.le_refl _
 | n+1,j=>by
  show (if j=n then _ else _)≤_
  have ih:=Rv D th t n
  split
  ·have:=Uc (D:=D) (k:=n) (prev:=X6 D th n) ih n
   split<;>omega
  have:=ih j;omega
def Jz (e:Ending) (w w':World) (n:Nat) (c:Nat→Nat→Nat):Prop:=∃ g,e=.returned (.slice (some ⟨g,0,none⟩) n n)∧Blk w' g 128 (XB n c)∧w.heap.size≤g∧Below w.heap.size w w'
theorem RP (D:Nat→Nat→Bool) (k:Nat) (prev:Nat→Nat→Nat) (t n:Nat):YH D k prev t (n+1)=if D n k then Nat.max (YH D k prev t n) (prev n t) else YH D k prev t n:=rfl
theorem Ke (D:Nat→Nat→Bool) (th:Nat→Nat) (n j t:Nat):X6 D th (n+1) j t=if j=n then YH D n (X6 D th n) t n+(if t=th n then 1 else 0) else X6 D th n j t:=rfl
def onC (D:Nat→Nat→Bool) (th:Nat→Nat) (i j k t:Nat):Nat:=if k=i then YH D i (X6 D th i) t j else X6 D th i k t
theorem RD {w0 w:World} {a:Option Addr} {n:Nat} {es:List I4} (h:Evs w0 a n es) (hb:Below w0.heap.size w0 w) {k:Nat} (hk:k<n):∃ ge,a=some ⟨ge,0,none⟩∧ge<w0.heap.size∧w.rangeAt ge (k*4) [.int .i64 (Xz es k).1,.int .i64 (Xz es k).2.1,.int .i64 (Xz es k).2.2.1,.int .i64 (Xz es k).2.2.2]:=by
 obtain ⟨ge,e,hg,c0,c1,c2,c3⟩:=Tw h hb hk
 refine ⟨ge,e,hg,fun j v hj=>?_⟩
 match j,hj with
 | 0,hj=>simp at hj;rw [← hj];exact c0
 | 1,hj=>simp at hj;rw [← hj];exact c1
 | 2,hj=>simp at hj;rw [← hj];exact c2
 | 3,hj=>simp at hj;rw [← hj];exact c3
 | j+4,hj=>simp at hj

theorem Nh (a:Option Addr) (n c:Nat) (es:List I4) (w:World) (h:Evs w a n es) (hn:n≤4096) (hnc:n≤c) (hI:YK es) :
  Calls Tryz.prog 74 #[.slice a n c] w fun e w'=>Jz e w w' n (clk (Z9 es) (thE es)):=by
 obtain ⟨i0,hi9,hz0,hz1,hz2⟩:=info_parts MH
 unfold Jz
 obtain ⟨D,hD⟩:∃ D,D=Z9 es:=⟨_,rfl⟩
 obtain ⟨th,hT⟩:∃ th,th=thE es:=⟨_,rfl⟩
 rw [← hD,← hT]
 have HD:Hid (D=Z9 es∧th=thE es):=⟨hD,hT⟩
 clear hD hT
 go_enter Tryz.func74,Tryz.ntmps74
 go_wp2_with (at_make;refine wpList_make_full _ rfl _ _ 125 rfl w.heap.size 128 i0 (.agg #[.int .i64 0,.int .i64 0,.int .i64 0]) 3 Tryz.underlying125 hi9 hz0 hz1 _ _ _ _ n rfl rfl rfl rfl ?b2 ?b3 ?b4 ?_)
 case b2=>rw [hz2];omega
 case b3=>unfold maxLen;omega
 case b4=>exact Nat.le_refl _
 intro w1 hown hgrow
 rw [KY] at hown
 have bw:Below w.heap.size w w1:=⟨hgrow.os,hgrow.tape,hgrow.output,hgrow.size,fun k hk=>hgrow.block k hk (by simp)⟩
 have pT:Hid (Blk w1 w.heap.size 128 (XB n (X6 D th 0))):=(VZ hown).1
 clear hown hgrow
 obtain ⟨g,hg⟩:∃ g,g=w.heap.size:=⟨_,rfl⟩
 have hgw:w.heap.size≤g:=by omega
 rw [← hg] at pT ⊢
 clear hg
 go_wp2_with fail
 go_loopw [13] (fun sk wr=>∃ i:Nat,i≤n∧sk=.int .i64 i∧Hid (Blk wr g 128 (XB n (X6 D th i)))∧Below w.heap.size w wr) (fun sk _=>n - (intOf sk).toNat)
 case atStart=>exact ⟨0,by omega,rfl,pT,bw⟩
 case round =>
  clear pT bw
  obtain ⟨i,hi,rfl,pT,bw⟩:=hrel
  by_cases hin:i<n
  ·have hin':(i:Int)<(n:Int):=by omega
   have hi0:(0:Int)≤(i:Int):=by omega
   obtain ⟨ge,rfl,hgl,hrg⟩:=RD h bw hin
   have hDi:∀ j,D j i=Ya (Xz es j) (Xz es i):=fun j=>by rw [HD.out.1];rfl
   have hti:(th i:Int)=(Xz es i).1:=by rw [HD.out.2];exact WC hI i
   have ht3:th i<3:=by rw [HD.out.2];exact Xw hI i
   generalize Xz es i=x at hrg hDi hti
   obtain ⟨x0,x1,x2,x3⟩:=x
   simp only at hrg hti
   have pN:=Blk.new wr 122 [.int .i64 0,.int .i64 0,.int .i64 0,.int .i64 0]
   have ha:Below wr.heap.size wr (wr.alloc (.cells #[.int .i64 0,.int .i64 0,.int .i64 0,.int .i64 0] 122)):=by go_grown
   go_wp2_with (first | refine wpList_load_mid rfl 122 _ rfl ge (i*4) rfl [.int .i64 x0,.int .i64 x1,.int .i64 x2,.int .i64 x3] _ hrg Tryz.underlying122 rfl (by kernel_rfl) ?_ | refine Ze rfl 122 _ _ rfl wr.heap.size [.int .i64 x0,.int .i64 x1,.int .i64 x2,.int .i64 x3] rfl rfl pN (by kernel_rfl) rfl rfl ?_)
   intro W pX g1
   have hgr:=pT.out.lt
   have pT1:Hid (Blk W g 128 (XB n (onC D th i 0))):=by
    have e:XB n (onC D th i 0)=XB n (X6 D th i):=We (fun k t _ _=>by
     unfold onC
     split
     ·rename_i e;subst e;rw [Ng D th t k k (Nat.le_refl _)];rfl
     rfl)
    unfold Hid
    rw [e]
    exact (pT.out.below ha).kept g1 (by simp;omega)
   have bw1:=(Zb bw ha).grown g1 (Nat.le_trans bw.size ha.size) (fun k e=>by cases e;exact bw.size)
   have hgX:wr.heap.size<W.heap.size:=pX.out.lt
   have hgg:g<wr.heap.size:=hgr
   have hwg:=bw.size
   clear pN ha g1 hrg pT bw hgr
   generalize wr.heap.size=gX at *
   have hic:i≤c:=by omega
   have hc0:¬ c=0:=by omega
   go_wp2_with fail
   go_loopw [22] (fun sj wr=>∃ j:Nat,j≤i∧sj=.int .i64 j∧Hid (Blk wr g 128 (XB n (onC D th i j)))∧Hid (Blk wr gX 122 [.int .i64 x0,.int .i64 x1,.int .i64 x2,.int .i64 x3])∧Below w.heap.size w wr) (fun sj _=>i - (intOf sj).toNat)
   case atStart=>exact ⟨0,by omega,rfl,pT1,pX,bw1⟩
   case round =>
    clear pT1 bw1 pX hgX
    obtain ⟨j,hj,rfl,pT,pX,bw⟩:=hrel
    by_cases hji:j<i
    ·have hji':(j:Int)<(i:Int):=by omega
     have hj0:(0:Int)≤(j:Int):=by omega
     have hjn':(j:Int)<(n:Int):=by omega
     obtain ⟨ge',hge',_,hrg⟩:=RD h bw (show j<n by omega)
     cases hge'
     have hDj:=hDi j
     generalize Xz es j=y at hrg hDj
     obtain ⟨y0,y1,y2,y3⟩:=y
     simp only at hrg
     have pN:=Blk.new wr 122 [.int .i64 0,.int .i64 0,.int .i64 0,.int .i64 0]
     have ha:Below wr.heap.size wr (wr.alloc (.cells #[.int .i64 0,.int .i64 0,.int .i64 0,.int .i64 0] 122)):=by go_grown
     go_wp2_with (first | refine wpList_load_mid rfl 122 _ rfl ge (j*4) rfl [.int .i64 y0,.int .i64 y1,.int .i64 y2,.int .i64 y3] _ hrg Tryz.underlying122 rfl (by kernel_rfl) ?_ | refine Ze rfl 122 _ _ rfl wr.heap.size [.int .i64 y0,.int .i64 y1,.int .i64 y2,.int .i64 y3] rfl rfl pN (by kernel_rfl) rfl rfl ?_)
     intro W pY g1
     have hgr:=pT.out.lt
     have hxr:=pX.out.lt
     have pT1:Hid (Blk W g 128 (XB n (onC D th i j))):=(pT.out.below ha).kept g1 (by simp;omega)
     have pX1:=(pX.out.below ha).kept g1 (by simp;omega)
     have bw1:=(Zb bw ha).grown g1 (Nat.le_trans bw.size ha.size) (fun k e=>by cases e;exact bw.size)
     have pY1:=pY.out
     clear pN ha g1 hrg pT bw pX pY hgr hxr
     generalize wr.heap.size=gY at *
     go_wp2_with (first | refine Zc rfl 122 _ rfl gY rfl pY1 _ Tryz.underlying122 rfl (by kernel_rfl) ?_ | refine Zc rfl 122 _ rfl gX rfl pX1 _ Tryz.underlying122 rfl (by kernel_rfl) ?_)
     refine (Ua (y0,y1,y2,y3) (x0,x1,x2,x3) _).mono ?_
     rintro e w2 ⟨rfl,hb⟩
     rw [← hDj]
     have pT2:Hid (Blk w2 g 128 (XB n (onC D th i j))):=pT1.out.below hb
     have pX2:Hid (Blk w2 gX 122 [.int .i64 x0,.int .i64 x1,.int .i64 x2,.int .i64 x3]):=pX1.below hb
     have bw2:=Zb bw1 hb
     clear pT1 pX1 pY1 hb bw1 hDj
     cases hd:D j i
     ·have pT3:Hid (Blk w2 g 128 (XB n (onC D th i (j+1)))):=by
       have e:XB n (onC D th i (j+1))=XB n (onC D th i j):=We (fun k t _ _=>by
        unfold onC
        rw [RP,hd]
        rfl)
       unfold Hid
       rw [e]
       exact pT2.out
      clear pT2 hd
      go_wp2
      go_roundw
      case rel=>exact ⟨j+1,by omega,by go_num,pT3,pX2,bw2⟩
      case measure=>simp [intOf];omega
     have c0:=(pT2.out.cell (j*3)).trans (Xg (t:=0) (onC D th i j) (show j<n by omega) (by omega))
     have c1:=(pT2.out.cell (j*3+1)).trans (Xg (t:=1) (onC D th i j) (show j<n by omega) (by omega))
     have c2:=(pT2.out.cell (j*3+2)).trans (Xg (t:=2) (onC D th i j) (show j<n by omega) (by omega))
     have kJ:=G1 (w:=w2.drew) (off:=i*3) pT2.out (onC D th i j i) (onC D th i j j) (Xg (t:=0) _ hin (by omega)) (Xg (t:=1) _ hin (by omega)) (Xg (t:=2) _ hin (by omega))
     rw [Js (onC D th i j) (fun t=>max (onC D th i j i t) (onC D th i j j t)) hin] at kJ
     have eJ:XB n (fun k u=>if k=i then max (onC D th i j i u) (onC D th i j j u) else onC D th i j k u)=XB n (onC D th i (j+1)):=We (fun k t _ _=>by
      unfold onC
      rw [RP,hd]
      have ne:¬ j=i:=by omega
      by_cases e:k=i
      ·simp only [e,if_true,if_neg ne]
      simp only [if_neg e])
     rw [eJ] at kJ
     unfold ck at kJ
     clear eJ
     have kJ2:=kJ.mono (R':=fun e w'=>e=.returned (.tuple #[])∧Blk w' g 128 (XB n (onC D th i (j+1)))∧w2.drew.grownBy w' (some g)∧w'.cell? ⟨g,j*3,none⟩=some (.int .i64 (onC D th i j j 0:Nat))∧w'.cell? ⟨g,j*3+1,none⟩=some (.int .i64 (onC D th i j j 1:Nat))∧w'.cell? ⟨g,j*3+2,none⟩=some (.int .i64 (onC D th i j j 2:Nat))) (by
      rintro e w' ⟨h1,h2,h3⟩
      have eZ:∀ t,onC D th i (j+1) j t=onC D th i j j t:=fun t=>by
       unfold onC
       rw [if_neg (show ¬ j=i by omega),if_neg (show ¬ j=i by omega)]
      have d0:=(h2.cell (j*3)).trans (Xg (t:=0) _ (show j<n by omega) (by omega))
      have d1:=(h2.cell (j*3+1)).trans (Xg (t:=1) _ (show j<n by omega) (by omega))
      have d2:=(h2.cell (j*3+2)).trans (Xg (t:=2) _ (show j<n by omega) (by omega))
      rw [eZ] at d0 d1 d2
      exact ⟨h1,h2,h3,d0,d1,d2⟩)
     clear kJ
     generalize onC D th i j j 0=z0 at *
     generalize onC D th i j j 1=z1 at *
     generalize onC D th i j j 2=z2 at *
     clear hd
     go_wp2_with fail
     go_region_held3 (fun w'=>w'.cell? ⟨g,j*3,none⟩=some (.int .i64 z0)∧w'.cell? ⟨g,j*3+1,none⟩=some (.int .i64 z1)∧w'.cell? ⟨g,j*3+2,none⟩=some (.int .i64 z2)) (first | (exact ⟨c0,c1,c2⟩) | (exact ⟨d0,d1,d2⟩) | go_keep)
      (first | (go_at_call 116;refine kJ2.mono ?_;rintro e w3 ⟨rfl,pJ,gJ,d0,d1,d2⟩))
     clear kJ2 c0 c1 c2 d0 d1 d2
     have pX3:Hid (Blk w3 gX 122 [.int .i64 x0,.int .i64 x1,.int .i64 x2,.int .i64 x3]):=pX2.out.drew.kept gJ (by simp;omega)
     have bw3:Below w.heap.size w w3:=(Zb bw2 (by go_grown)).grown gJ bw2.size (fun k e=>by cases e;exact hgw)
     have pT3:Hid (Blk w3 g 128 (XB n (onC D th i (j+1)))):=pJ
     clear pX2 bw2 pT2 gJ pJ
     go_wp2
     go_roundw
     case rel=>exact ⟨j+1,by omega,by go_num,pT3,pX3,bw3⟩
     case measure=>simp [intOf];omega
    obtain rfl:j=i:=by omega
    subst hti
    clear hDi hic hc0
    obtain ⟨t,ht⟩:∃ t,t=th j:=⟨_,rfl⟩
    have HTt:Hid (t=th j):=ht
    rw [← ht] at ht3 pX
    clear ht
    have cX:=pX.out.cell 0
    simp only [List.getElem?_cons_zero] at cX
    have c0:=(pT.out.cell (j*3+t)).trans (Xg _ hin ht3)
    have f0:=pT.out.frozen (j*3+t)
    have eV:onC D th j j j t=YH D j (X6 D th j) t j:=by unfold onC;rw [if_pos rfl]
    rw [eV] at c0
    have hvb:=Uc (D:=D) (k:=j) (prev:=X6 D th j) (t:=t) (fun q=>Rv D th t j q) j
    have pT2:=pT.out.set (j*3+t) (.int .i64 (YH D j (X6 D th j) t j+1:Nat))
    rw [T2 _ _ hin ht3] at pT2
    have e2:XB n (fun k u=>if k=j∧u=t then YH D j (X6 D th j) t j+1 else onC D th j j k u)=XB n (X6 D th (j+1)):=We (fun k u _ _=>by
     rw [Ke]
     unfold onC
     by_cases e:k=j
     ·simp only [e,true_and,if_true]
      by_cases e':u=t
      ·subst e'
       rw [if_pos rfl,if_pos HTt.out]
      rw [if_neg e',if_neg (fun q=>e' (q.trans HTt.out.symm)),Nat.add_zero]
     simp only [e,false_and,if_false])
    rw [e2] at pT2
    clear e2 eV pT
    generalize YH D j (X6 D th j) t j=v at *
    have hw9:IntKind.i64.wrap ((v:Int)+1)=((v+1:Nat):Int):=by
     rw [IntWalk.i64_in _ ⟨by omega,by omega⟩]
     omega
    have ht9:(t:Int)<3:=by omega
    have ht8:(0:Int)≤(t:Int):=by omega
    clear pX
    go_wp2_with fail
    go_region
    have pT3:Hid (Blk ((wr.setCell ⟨g,j*3+t,none⟩ (.int .i64 (v+1:Nat))).drew) g 128 (XB n (X6 D th (j+1)))):=pT2
    have bw3:Below w.heap.size w ((wr.setCell ⟨g,j*3+t,none⟩ (.int .i64 (v+1:Nat))).drew):=Zb (bw.setCell hgw _) (by go_grown)
    clear pT2 bw hw9 c0 f0 cX
    go_wp2
    go_roundw
    case rel=>exact ⟨j+1,by omega,by go_num,pT3,bw3⟩
    case measure=>simp [intOf];omega
  obtain rfl:i=n:=by omega
  have pT2:Blk wr g 128 (XB i (clk D th)):=by
   have e:XB i (clk D th)=XB i (X6 D th i):=We (fun k t hk _=>(Rw D th k t i hk).symm)
   rw [e]
   exact pT.out
  clear pT
  go_wp2
  go_ret
  exact ⟨g,rfl,pT2,hgw,bw⟩


theorem SC (f:Nat→Value):tab 3 f=[f 0,f 1,f 2]:=rfl
def UX (f:Nat→Nat) (t u:Nat):Nat:=f u+(if u=t then 1 else 0)
theorem G7 (D:Nat→Nat→Bool) (th:Nat→Nat) (f:Nat→Nat) (k:Nat):okN D th f k=(decide (clk D th k (th k)=UX f (th k) (th k)) && inC (clk D th k) (UX f (th k))):=by
 unfold okN inC UX
 simp only [if_true]
theorem NN (ok:Nat→Bool) (th:Nat→Nat) (n:Nat):ZR ok th (n+1)=if ok n then Nat.min (ZR ok th n) (th n) else ZR ok th n:=rfl
theorem VL {ok:Nat→Bool} {th:Nat→Nat}:∀ n,ZR ok th n≤3
 | 0=>Nat.le_refl _
 | n+1=>by
  rw [NN]
  have:=VL (ok:=ok) (th:=th) n
  split
  ·exact Nat.le_trans (Nat.min_le_left _ _) this
  exact this

theorem RU (a:Option Addr) (n c g:Nat) (es:List I4) (w:World) (h:Evs w a n es) (hn:n≤4096) (hI:YK es) (hB:Blk w g 128 (XB n (clk (Z9 es) (thE es)))) (f:Nat→Nat) (hf:∀ t,f t≤5000) :
  Calls Tryz.prog 75 #[.slice a n c,.slice (some ⟨g,0,none⟩) n n,ck f] w fun e w'=>e=.returned (.int .i64 (ZR (okN (Z9 es) (thE es) f) (thE es) n:Nat))∧Below w.heap.size w w':=by
 obtain ⟨D,hD⟩:∃ D,D=Z9 es:=⟨_,rfl⟩
 obtain ⟨th,hT⟩:∃ th,th=thE es:=⟨_,rfl⟩
 rw [← hD,← hT] at hB ⊢
 have HT:Hid (th=thE es):=hT
 clear hD hT
 unfold ck
 have pF:=Blk.new w 128 [.int .i64 (f 0:Nat),.int .i64 (f 1:Nat),.int .i64 (f 2:Nat)]
 have bw:Below w.heap.size w (w.alloc (.cells #[.int .i64 (f 0:Nat),.int .i64 (f 1:Nat),.int .i64 (f 2:Nat)] 128)):=by go_grown
 have hgl9:=hB.lt
 obtain ⟨gF,hgF⟩:∃ gF,gF=w.heap.size:=⟨_,rfl⟩
 have HgF:Hid (gF=w.heap.size):=hgF
 rw [← hgF] at pF
 have hgFw:w.heap.size≤gF:=by omega
 have hgg:g<gF:=by omega
 obtain ⟨ok,hok⟩:∃ ok,ok=okN D th f:=⟨_,rfl⟩
 rw [← hok]
 have HK:Hid (ok=okN D th f):=hok
 clear hok hgF
 go_enter Tryz.func75,Tryz.ntmps75
 go_wp2_with fail
 rw [← HgF.out]
 generalize w.alloc (.cells #[.int .i64 (f 0:Nat),.int .i64 (f 1:Nat),.int .i64 (f 2:Nat)] 128)=U at *
 go_wp2_with fail
 go_loopw [7,14] (fun sl si wr=>∃ i:Nat,i≤n∧sl=.int .i64 (ZR ok th i:Nat)∧si=.int .i64 i∧Hid (Blk wr gF 128 [.int .i64 (f 0:Nat),.int .i64 (f 1:Nat),.int .i64 (f 2:Nat)])∧Below w.heap.size w wr) (fun _ si _=>n - (intOf si).toNat)
 case atStart=>exact ⟨0,by omega,rfl,rfl,pF,bw⟩
 case round =>
  clear pF bw
  obtain ⟨i,hi,rfl,rfl,pF,bw⟩:=hrel
  by_cases hin:i<n
  ·have hin':(i:Int)<(n:Int):=by omega
   have hi0:(0:Int)≤(i:Int):=by omega
   obtain ⟨ge,rfl,hgl,hrg⟩:=RD h bw hin
   have hti:(th i:Int)=(Xz es i).1:=by rw [HT.out];exact WC hI i
   have ht3:th i<3:=by rw [HT.out];exact Xw hI i
   generalize Xz es i=x at hrg hti
   obtain ⟨x0,x1,x2,x3⟩:=x
   simp only at hrg hti
   subst hti
   have HL:Hid (ZR ok th (i+1)=if ok i then Nat.min (ZR ok th i) (th i) else ZR ok th i):=rfl
   have hl3:=VL (ok:=ok) (th:=th) i
   have HO:Hid (ok i=(decide (clk D th i (th i)=UX f (th i) (th i)) && inC (clk D th i) (UX f (th i)))):=by rw [HK.out];exact G7 D th f i
   generalize ZR ok th i=l at *
   obtain ⟨t,ht⟩:∃ t,t=th i:=⟨_,rfl⟩
   rw [← ht] at ht3 hrg HL HO
   clear ht
   have pN:=Blk.new wr 122 [.int .i64 0,.int .i64 0,.int .i64 0,.int .i64 0]
   have ha:Below wr.heap.size wr (wr.alloc (.cells #[.int .i64 0,.int .i64 0,.int .i64 0,.int .i64 0] 122)):=by go_grown
   go_wp2_with (first | refine wpList_load_mid rfl 122 _ rfl ge (i*4) rfl [.int .i64 (t:Int),.int .i64 x1,.int .i64 x2,.int .i64 x3] _ hrg Tryz.underlying122 rfl (by kernel_rfl) ?_ | refine Ze rfl 122 _ _ rfl wr.heap.size [.int .i64 (t:Int),.int .i64 x1,.int .i64 x2,.int .i64 x3] rfl rfl pN (by kernel_rfl) rfl rfl ?_)
   intro W pX g1
   have hfr:=pF.out.lt
   have pF1:=(pF.out.below ha).kept g1 (by simp;omega)
   have bw1:=(Zb bw ha).grown g1 (Nat.le_trans bw.size ha.size) (fun k e=>by cases e;exact bw.size)
   have pX1:=pX.out
   have hXl:=pX1.lt
   have hFX:gF<wr.heap.size:=hfr
   clear pN ha g1 hrg pX bw pF hfr
   generalize wr.heap.size=gX at *
   have pN:=Blk.new W 128 [.int .i64 0,.int .i64 0,.int .i64 0]
   have ha:Below W.heap.size W (W.alloc (.cells #[.int .i64 0,.int .i64 0,.int .i64 0] 128)):=by go_grown
   go_wp2_with (first | refine Zc rfl 128 _ rfl gF rfl pF1 _ Tryz.underlying128 rfl (by kernel_rfl) ?_ | refine Ze rfl 128 _ _ rfl W.heap.size [.int .i64 (f 0:Nat),.int .i64 (f 1:Nat),.int .i64 (f 2:Nat)] rfl rfl pN (by kernel_rfl) rfl rfl ?_)
   intro V pD g1
   have pF2:Hid (Blk V gF 128 [.int .i64 (f 0:Nat),.int .i64 (f 1:Nat),.int .i64 (f 2:Nat)]):=(pF1.below ha).kept g1 (by simp;omega)
   have pX2:=(pX1.below ha).kept g1 (by simp;omega)
   have bw2:=(Zb bw1 ha).grown g1 (Nat.le_trans bw1.size ha.size) (fun k e=>by cases e;exact bw1.size)
   have pD1:=pD.out
   have hsz:=bw1.size
   clear pN ha g1 pX1 pF1 bw1 pD
   generalize W.heap.size=gD at *
   have cX:=pX2.cell 0
   simp only [List.getElem?_cons_zero] at cX
   have ht9:(t:Int)<3:=by omega
   have ht8:(0:Int)≤(t:Int):=by omega
   have c0:=(pD1.cell t).trans ((congrArg (·[t]?) (SC fun u=>.int .i64 (f u:Nat))).symm.trans (WB _ ht3))
   have f0:=pD1.frozen t
   have hft:=hf t
   have pD2:Hid (Blk (V.setCell ⟨gD,t,none⟩ (.int .i64 (f t+1:Nat))) gD 128 (tab 3 fun u=>.int .i64 (UX f t u:Nat))):=by
    have:=pD1.set t (.int .i64 (f t+1:Nat))
    have e:[.int .i64 (f 0:Nat),.int .i64 (f 1:Nat),.int .i64 (f 2:Nat)].set t (.int .i64 (f t+1:Nat))=tab 3 (fun u=>.int .i64 (UX f t u:Nat)):=by
     rw [← SC fun u=>.int .i64 (f u:Nat),T3]
     refine XM (fun u _=>?_)
     unfold UX
     by_cases e:u=t
     ·subst e;simp
     simp [e]
    rw [e] at this
    exact this
   have gs:V.grownBy (V.setCell ⟨gD,t,none⟩ (.int .i64 (f t+1:Nat))) (some gD):=⟨rfl,rfl,rfl,by simp,fun i _ hr=>Below.heap_setCell V ⟨gD,t,none⟩ _ i (fun e=>hr (by rw [e]))⟩
   have pF3:Hid (Blk _ gF 128 [.int .i64 (f 0:Nat),.int .i64 (f 1:Nat),.int .i64 (f 2:Nat)]):=pF2.out.kept gs (by simp;omega)
   have pX3:=pX2.kept gs (by simp;omega)
   have bw3:=bw2.grown gs bw2.size (fun k e=>by cases e;omega)
   clear pF2 pX2 bw2 pD1 gs
   rw [show ((f t+1:Nat):Int)=(f t:Int)+1 from rfl] at pD2 pF3 pX3 bw3
   go_wp2_with fail
   generalize V.setCell ⟨gD,t,none⟩ (.int .i64 ((f t:Int)+1))=V2 at *
   clear cX c0 f0
   have cX:=pX3.cell 0
   simp only [List.getElem?_cons_zero] at cX
   have pB:=hB.below bw3
   have kt:=(pB.cell (i*3+t)).trans (Xg _ hin ht3)
   have dt:=(pD2.out.cell t).trans (WB _ ht3)
   have kk:∀ u,u<3→V2.cell? ⟨g,i*3+u,none⟩=some (.int .i64 (clk D th i u:Nat)):=fun u hu=>(pB.cell (i*3+u)).trans (Xg _ hin hu)
   have dd:∀ u,u<3→V2.cell? ⟨gD,u,none⟩=some (.int .i64 (UX f t u:Nat)):=fun u hu=>(pD2.out.cell u).trans (WB _ hu)
   have k0:=kk 0 (by omega)
   have k1:=kk 1 (by omega)
   have k2:=kk 2 (by omega)
   have e0:=dd 0 (by omega)
   have e1:=dd 1 (by omega)
   have e2:=dd 2 (by omega)
   rw [Nat.add_zero] at k0
   have kW:=fun W=>Jx (clk D th i) (UX f t) W
   unfold ck at kW
   clear pB kk dd pX3 pD2
   obtain ⟨o2,ho2⟩:∃ o2,o2=inC (clk D th i) (UX f t):=⟨_,rfl⟩
   rw [← ho2] at kW HO
   clear ho2
   generalize clk D th i 0=q0 at *
   generalize clk D th i 1=q1 at *
   generalize clk D th i 2=q2 at *
   generalize UX f t 0=r0 at *
   generalize UX f t 1=r1 at *
   generalize UX f t 2=r2 at *
   generalize clk D th i t=qt at *
   generalize UX f t t=rt at *
   by_cases heq:qt=rt
   ·subst heq
    have qe:((qt:Int) == (qt:Int))=true:=by simp
    have HO2:Hid (ok i=o2):=by rw [Hid,HO.out];simp
    clear HO
    go_quiet (fail)
    have bw4:Below w.heap.size w (V2.drewN nq):=Zb bw3 (Z4 nq)
    have pF4:Hid (Blk (V2.drewN nq) gF 128 [.int .i64 (f 0:Nat),.int .i64 (f 1:Nat),.int .i64 (f 2:Nat)]):=pF3.out.drewN nq
    have cX4:(V2.drewN nq).cell? ⟨gX,0,none⟩=some (.int .i64 (t:Int)):=cX
    have k0':(V2.drewN nq).cell? ⟨g,i*3,none⟩=some (.int .i64 (q0:Nat)):=k0
    have k1':(V2.drewN nq).cell? ⟨g,i*3+1,none⟩=some (.int .i64 (q1:Nat)):=k1
    have k2':(V2.drewN nq).cell? ⟨g,i*3+2,none⟩=some (.int .i64 (q2:Nat)):=k2
    have e0':(V2.drewN nq).cell? ⟨gD,0,none⟩=some (.int .i64 (r0:Nat)):=e0
    have e1':(V2.drewN nq).cell? ⟨gD,1,none⟩=some (.int .i64 (r1:Nat)):=e1
    have e2':(V2.drewN nq).cell? ⟨gD,2,none⟩=some (.int .i64 (r2:Nat)):=e2
    clear bw3 pF3 cX k0 k1 k2 e0 e1 e2 kt dt
    generalize V2.drewN nq=V3 at *
    go_wp2_with fail
    go_region_held3 (fun w'=>w'.cell? ⟨g,i*3,none⟩=some (.int .i64 (q0:Nat))∧w'.cell? ⟨g,i*3+1,none⟩=some (.int .i64 (q1:Nat))∧w'.cell? ⟨g,i*3+2,none⟩=some (.int .i64 (q2:Nat))∧w'.cell? ⟨gD,0,none⟩=some (.int .i64 (r0:Nat))∧w'.cell? ⟨gD,1,none⟩=some (.int .i64 (r1:Nat))∧w'.cell? ⟨gD,2,none⟩=some (.int .i64 (r2:Nat))) (first | (exact ⟨k0',k1',k2',e0',e1',e2'⟩) | (refine ⟨?_,?_,?_,?_,?_,?_⟩<;>(apply Za (by assumption);assumption)) | go_keep)
     (first | (go_at_call 117;refine (kW _).mono ?_;rintro e V4 ⟨rfl,hb⟩))
    rename_i hHeld
    have hb5:Below V3.heap.size V3 V4:=Zb (by go_grown) hb
    have bw5:=Zb bw4 hb5
    have pF5:Hid (Blk V4 gF 128 [.int .i64 (f 0:Nat),.int .i64 (f 1:Nat),.int .i64 (f 2:Nat)]):=pF4.out.below hb5
    have cX5:=Za hb5 _ _ cX4
    clear hHeld k0' k1' k2' e0' e1' e2' cX4 pF4 bw4 hb hb5 kW
    cases o2
    ·have HO3:Hid (ZR ok th (i+1)=l):=by rw [Hid,HL.out,HO2.out];simp
     clear HO2 HL
     go_wp2
     go_roundw
     case rel=>exact ⟨i+1,by omega,by rw [HO3.out],by go_num,pF5,bw5⟩
     case measure=>simp [intOf];omega
    have HO3:Hid (ZR ok th (i+1)=Nat.min l t):=by rw [Hid,HL.out,HO2.out];simp
    clear HO2 HL
    by_cases hlt:l<t
    ·have HO4:Hid (ZR ok th (i+1)=l):=by rw [Hid,HO3.out];exact Nat.min_eq_left (by omega)
     have hlt':(l:Int)<(t:Int):=by omega
     have hlt9:¬ (t:Int)<(l:Int):=by omega
     clear HO3 hlt
     go_wp2
     go_roundw
     case rel=>exact ⟨i+1,by omega,by rw [HO4.out]<;>(try (congr 1;omega)),by go_num,pF5,bw5⟩
     case measure=>simp [intOf];omega
    have HO4:Hid (ZR ok th (i+1)=t):=by rw [Hid,HO3.out];exact Nat.min_eq_right (by omega)
    clear HO3
    by_cases hle:t<l
    ·have hlt':(t:Int)<(l:Int):=by omega
     have hlt9:¬ (l:Int)<(t:Int):=by omega
     clear hlt hle
     go_wp2
     go_roundw
     case rel=>exact ⟨i+1,by omega,by rw [HO4.out]<;>(try (congr 1;omega)),by go_num,pF5,bw5⟩
     case measure=>simp [intOf];omega
    obtain rfl:t=l:=by omega
    have hlt9:¬ (t:Int)<(t:Int):=by omega
    clear hlt hle
    go_wp2
    go_roundw
    case rel=>exact ⟨i+1,by omega,by rw [HO4.out]<;>(try (congr 1;omega)),by go_num,pF5,bw5⟩
    case measure=>simp [intOf];omega
   have qe:((qt:Int) == (rt:Int))=false:=by simp;omega
   have HO2:Hid (ZR ok th (i+1)=l):=by rw [Hid,HL.out,HO.out];simp [heq]
   clear HO HL kW heq
   go_quiet (fail)
   go_wp2
   go_quiet (fail)
   go_wp2
   go_roundw
   case rel=>exact ⟨i+1,by omega,by rw [HO2.out],by go_num,pF3.out.drewN _,Zb bw3 (Z4 _)⟩
   case measure=>simp [intOf];omega
  obtain rfl:i=n:=by omega
  go_wp2
  go_ret
  exact ⟨rfl,bw⟩
end Go.Proofs.YtojcgajjnmjjpaaGreatDoor
