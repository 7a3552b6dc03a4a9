/-
  Joined: DrawI.
-/
import Derived.Deep.RegionLaw
import Derived.Laws.OwnMore
import Derived.Test.YtgmhhegckcionaaGreatDoorF02
import Derived.Test.YtgmhhegckcionaaGreatDoorF16

namespace Go.Proofs.YtgmhhegckcionaaGreatDoor
set_option maxRecDepth 100000
set_option maxHeartbeats 16000000
open Go.RowKit

theorem ZI {p base e size n:Nat} {v:Value} {xs:List Value} {w w':World} (h:w.ownsRow base e size v n xs) (hw:YG p w w') (hp:p<base):w'.ownsRow base e size v n xs:=
 h.kept hw (by
  rcases hb:v.ownBlock with _ | x
  ·exact .inl rfl
  refine .inr fun e=>?_
  cases e
  have:=(h.lt _ hb).1
  omega)
theorem Sm (w:World) (x y z:Value) (t B:Nat) (hB:B≤w.heap.size):(w.alloc (.cells #[x,y,z] t)).ownsRow B t 3 (.slice (some ⟨w.heap.size,0,none⟩) 1 1) 1 [x,y,z]:=World.ownsRow_lit w #[x,y,z] 1 hB (by unfold maxLen;omega) rfl
theorem ZX {w w':World} {X p:Nat} (h:w.grownBy w' (some X)) (hX:p≤X) (hp:p≤w.heap.size):Below p w w':=
 ⟨h.os,h.tape,h.output,h.size,fun k hk=>h.block k (by omega) (fun e=>by cases e;omega)⟩

def Tz (x:I3) (at0 nn:Nat):Prop:=x.1=7→(at0:Int)+1≤x.2.2∧x.2.2≤(nn:Int)
theorem MC {va:Int} {at0 nn vt:Nat} (h1:at0+1≤vt) (h2:vt≤nn):Tz (7,va,(vt:Int)) at0 nn:=fun _=>⟨by simp only;omega,by simp only;omega⟩
theorem XA {x:I3} {at0 nn:Nat} (h:x.1≠7):Tz x at0 nn:=fun e=>absurd e h
theorem P1 (p T:Nat) (a:Option Addr) (n cap at0 nn:Nat) (w:World) (hS:Src w p (.slice a n cap) T) (hC:TO w p a n cap) (hT:T≤800000) (hat:at0<nn) (hnn:nn≤3) :
  Calls Tryz.prog 57 #[.pointer (some ⟨p,0,none⟩),.int .i64 at0,.int .i64 nn] w fun e w'=>(∃ x:I3,(okI x=true∧Tz x at0 nn)∧e=.returned x.val)∧Src w' p (.slice a n cap) (T+9)∧YG p w w':=by
 have hpl:=hS.lt
 have hpB:p<w.heap.size:=hS.lt
 have hRr:=Sm w (.int .i64 0) (.int .i64 0) (.int .i64 0) 122 w.heap.size (Nat.le_refl _)
 replace hS:=hS.alloc (.cells #[.int .i64 0,.int .i64 0,.int .i64 0] 122)
 replace hC:=hC.below ((Below.refl p w).alloc (Nat.le_of_lt hpl) (.cells #[.int .i64 0,.int .i64 0,.int .i64 0] 122))
 have hWt:=(YG.refl p w).alloc (.cells #[.int .i64 0,.int .i64 0,.int .i64 0] 122)
 have hsA:w.heap.size<(w.alloc (.cells #[.int .i64 0,.int .i64 0,.int .i64 0] 122)).heap.size:=by simp
 go_enter Tryz.func57,Tryz.ntmps57
 go_wp2_with fail
 generalize w.alloc (.cells #[.int .i64 0,.int .i64 0,.int .i64 0] 122)=wA at hRr hS hC hWt hsA
 replace hpl:p<wA.heap.size:=by omega
 refine (YA p T a n cap 8 _ hS hC (by omega) (by omega)).mono ?_
 rintro e w1 ⟨⟨v,hv,rfl⟩,hSn,hWn⟩
 replace hS:=hSn
 replace hRr:=ZI hRr hWn hpB
 replace hC:=hC.went hWn (Nat.le_of_lt hpl)
 have hbX:w.heap.size<w1.heap.size:=Nat.lt_of_lt_of_le hsA hWn.size
 replace hpl:=Nat.lt_of_lt_of_le hpl hWn.size
 replace hWt:=hWt.trans hWn
 have hbs:w.heap.size≤w1.heap.size:=by omega
 clear hSn hWn hsA
 have hcases:(1+(v:Int))=1∨(1+(v:Int))=2∨(1+(v:Int))=3∨(1+(v:Int))=4∨(1+(v:Int))=5∨(1+(v:Int))=6∨(1+(v:Int))=7∨(1+(v:Int))=8:=by omega
 rcases hcases with hv1 | hv1 | hv1 | hv1 | hv1 | hv1 | hv1 | hv1
 ·have hXb:=Sm (w1) (.int .i64 1) (.int .i64 0) (.int .i64 0) 122 w.heap.size hbs
  have hXr:=hXb
  have hGx:w1.grownBy (w1.alloc (.cells #[.int .i64 1,.int .i64 0,.int .i64 0] 122)) none:=World.grownBy_alloc w1 _ none
  replace hRr:=hRr.alloc (.cells #[.int .i64 1,.int .i64 0,.int .i64 0] 122)
  replace hS:=hS.alloc (.cells #[.int .i64 1,.int .i64 0,.int .i64 0] 122)
  replace hC:=hC.below ((Below.refl p w1).alloc (Nat.le_of_lt hpl) (.cells #[.int .i64 1,.int .i64 0,.int .i64 0] 122))
  replace hWt:=hWt.alloc (.cells #[.int .i64 1,.int .i64 0,.int .i64 0] 122)
  replace hpl:p<(w1.alloc (.cells #[.int .i64 1,.int .i64 0,.int .i64 0] 122)).heap.size:=by simp;omega
  have xk:(w1.alloc (.cells #[.int .i64 1,.int .i64 0,.int .i64 0] 122)).cell? ⟨w1.heap.size,0,none⟩=some (.int .i64 1):=by simp [go_sem]
  clear hXb hGx
  go_wp2_with fail
  clear xk
  generalize w1.alloc (.cells #[.int .i64 1,.int .i64 0,.int .i64 0] 122)=wx at hXr hRr hS hC hWt hpl
  generalize w1.heap.size=X at hXr hbs hbX
  refine (YA p (T+3) a n cap 2 _ hS hC (by omega) (by omega)).mono ?_
  rintro e w2 ⟨⟨va,hva,rfl⟩,hSn,hWn⟩
  replace hS:=hSn
  replace hRr:=ZI hRr hWn hpB
  replace hXr:=ZI hXr hWn hpB
  replace hC:=hC.went hWn (Nat.le_of_lt hpl)
  replace hpl:=Nat.lt_of_lt_of_le hpl (hWn).size
  replace hWt:=hWt.trans hWn
  clear hSn hWn
  have hva2:va<2:=by omega
  have xs:w2.cell? ⟨X,1,none⟩=some (.int .i64 0):=by simpa using hXr.cellAt 1 (by omega)
  have fs:=hXr.frozenAt 1
  have hXn:=(hXr.stored 1 (.int .i64 (va:Int))).1
  have hRn:(w2.setCell ⟨X,1,none⟩ (.int .i64 (va:Int))).ownsRow w.heap.size 122 3 (.slice (some ⟨w.heap.size,0,none⟩) 1 1) 1 [.int .i64 0,.int .i64 0,.int .i64 0]:=ownsRow_setCell_other hRr (by simp [Value.ownBlock];omega) _
  have hGn:=Zh w2 X 1 (.int .i64 (va:Int))
  have hSn:=hS.grown hGn (fun k e=>by cases e;omega)
  have hWn:YG p w (w2.setCell ⟨X,1,none⟩ (.int .i64 (va:Int))):=hWt.grown hGn (fun k e=>by cases e;omega)
  have hCn:=hC.below (ZX hGn (show p≤X by omega) (Nat.le_of_lt hpl))
  have hpn:p<(w2.setCell ⟨X,1,none⟩ (.int .i64 (va:Int))).heap.size:=Nat.lt_of_lt_of_le hpl hGn.size
  simp only [List.set_cons_succ,List.set_cons_zero] at hXn
  clear hXr hRr hS hWt hC hpl hGn
  go_wp2_with fail
  clear xs fs
  generalize w2.setCell ⟨X,1,none⟩ (.int .i64 (va:Int))=w3 at hXn hRn hSn hWn hCn hpn
  have hXr:=hXn
  have hRr:=hRn
  have hS:=hSn
  have hWt:=hWn
  have hC:=hCn
  have hpl:=hpn
  clear hXn hRn hSn hWn hCn hpn
  refine (YA p (T+3+3) a n cap 2 _ hS hC (by omega) (by omega)).mono ?_
  rintro e w4 ⟨⟨vb,hvb,rfl⟩,hSn,hWn⟩
  replace hS:=hSn
  replace hRr:=ZI hRr hWn hpB
  replace hXr:=ZI hXr hWn hpB
  replace hC:=hC.went hWn (Nat.le_of_lt hpl)
  replace hpl:=Nat.lt_of_lt_of_le hpl (hWn).size
  replace hWt:=hWt.trans hWn
  clear hSn hWn
  have hvb2:vb<2:=by omega
  have xs:w4.cell? ⟨X,2,none⟩=some (.int .i64 0):=by simpa using hXr.cellAt 2 (by omega)
  have fs:=hXr.frozenAt 2
  have hXn:=(hXr.stored 2 (.int .i64 (vb:Int))).1
  have hRn:(w4.setCell ⟨X,2,none⟩ (.int .i64 (vb:Int))).ownsRow w.heap.size 122 3 (.slice (some ⟨w.heap.size,0,none⟩) 1 1) 1 [.int .i64 0,.int .i64 0,.int .i64 0]:=ownsRow_setCell_other hRr (by simp [Value.ownBlock];omega) _
  have hGn:=Zh w4 X 2 (.int .i64 (vb:Int))
  have hSn:=hS.grown hGn (fun k e=>by cases e;omega)
  have hWn:YG p w (w4.setCell ⟨X,2,none⟩ (.int .i64 (vb:Int))):=hWt.grown hGn (fun k e=>by cases e;omega)
  have hCn:=hC.below (ZX hGn (show p≤X by omega) (Nat.le_of_lt hpl))
  have hpn:p<(w4.setCell ⟨X,2,none⟩ (.int .i64 (vb:Int))).heap.size:=Nat.lt_of_lt_of_le hpl hGn.size
  simp only [List.set_cons_succ,List.set_cons_zero] at hXn
  clear hXr hRr hS hWt hC hpl hGn
  have x0:(w4.setCell ⟨X,2,none⟩ (.int .i64 (vb:Int))).cell? ⟨X,0,none⟩=some (.int .i64 1):=by simpa using hXn.cellAt 0 (by omega)
  have x1:(w4.setCell ⟨X,2,none⟩ (.int .i64 (vb:Int))).cell? ⟨X,1,none⟩=some (.int .i64 (va:Int)):=by simpa using hXn.cellAt 1 (by omega)
  have x2:(w4.setCell ⟨X,2,none⟩ (.int .i64 (vb:Int))).cell? ⟨X,2,none⟩=some (.int .i64 (vb:Int)):=by simpa using hXn.cellAt 2 (by omega)
  have kR0:(w4.setCell ⟨X,2,none⟩ (.int .i64 (vb:Int))).cell? ⟨w.heap.size,0,none⟩=some (.int .i64 0):=by simpa using hRn.cellAt 0 (by omega)
  have kR1:(w4.setCell ⟨X,2,none⟩ (.int .i64 (vb:Int))).cell? ⟨w.heap.size,1,none⟩=some (.int .i64 0):=by simpa using hRn.cellAt 1 (by omega)
  have kR2:(w4.setCell ⟨X,2,none⟩ (.int .i64 (vb:Int))).cell? ⟨w.heap.size,2,none⟩=some (.int .i64 0):=by simpa using hRn.cellAt 2 (by omega)
  have fR0:=hRn.frozenAt 0
  have fR1:=hRn.frozenAt 1
  have fR2:=hRn.frozenAt 2
  have hR9:=(((hRn.stored 0 (.int .i64 1)).1.stored 1 (.int .i64 (va:Int))).1.stored 2 (.int .i64 (vb:Int))).1
  have g9:=ZE (Zh (w4.setCell ⟨X,2,none⟩ (.int .i64 (vb:Int))) w.heap.size 0 (.int .i64 1)) (ZE (Zh _ w.heap.size 1 (.int .i64 (va:Int))) (Zh _ w.heap.size 2 (.int .i64 (vb:Int))))
  have hS9:=(hSn.grown g9 (fun k e=>by cases e;omega)).mono (show _≤T+9 by omega)
  have hW9:=hWn.grown g9 (fun k e=>by cases e;omega)
  clear hRn hXn hSn hWn hCn hpn g9
  go_wp2
  clear kR0 kR1 kR2 fR0 fR1 fR2 x0 x1 x2 xs fs
  generalize (((w4.setCell ⟨X,2,none⟩ (.int .i64 (vb:Int))).setCell ⟨w.heap.size,0,none⟩ (.int .i64 1)).setCell ⟨w.heap.size,1,none⟩ (.int .i64 (va:Int))).setCell ⟨w.heap.size,2,none⟩ (.int .i64 (vb:Int))=w9 at hR9 hS9 hW9
  have k0:w9.cell? ⟨w.heap.size,0,none⟩=some (.int .i64 1):=by simpa using hR9.cellAt 0 (by omega)
  have k1:w9.cell? ⟨w.heap.size,1,none⟩=some (.int .i64 (va:Int)):=by simpa using hR9.cellAt 1 (by omega)
  have k2:w9.cell? ⟨w.heap.size,2,none⟩=some (.int .i64 (vb:Int)):=by simpa using hR9.cellAt 2 (by omega)
  refine bodyPost_ret (by simp [results,Tryz.results57,go_sem,k0,k1,k2];try rfl) rfl ?_
  refine ⟨⟨(1,(va:Int),(vb:Int)),?_,rfl⟩,hS9,hW9⟩
  have ha:va=0∨va=1:=by omega
  have hb:vb=0∨vb=1:=by omega
  refine ⟨?_,?_⟩
  ·rcases ha with rfl | rfl<;>rcases hb with rfl | rfl<;>decide
  exact XA (by show (1:Int)≠7;decide)
 ·have hXb:=Sm (w1) (.int .i64 2) (.int .i64 0) (.int .i64 0) 122 w.heap.size hbs
  have hXr:=hXb
  have hGx:w1.grownBy (w1.alloc (.cells #[.int .i64 2,.int .i64 0,.int .i64 0] 122)) none:=World.grownBy_alloc w1 _ none
  replace hRr:=hRr.alloc (.cells #[.int .i64 2,.int .i64 0,.int .i64 0] 122)
  replace hS:=hS.alloc (.cells #[.int .i64 2,.int .i64 0,.int .i64 0] 122)
  replace hC:=hC.below ((Below.refl p w1).alloc (Nat.le_of_lt hpl) (.cells #[.int .i64 2,.int .i64 0,.int .i64 0] 122))
  replace hWt:=hWt.alloc (.cells #[.int .i64 2,.int .i64 0,.int .i64 0] 122)
  replace hpl:p<(w1.alloc (.cells #[.int .i64 2,.int .i64 0,.int .i64 0] 122)).heap.size:=by simp;omega
  have xk:(w1.alloc (.cells #[.int .i64 2,.int .i64 0,.int .i64 0] 122)).cell? ⟨w1.heap.size,0,none⟩=some (.int .i64 2):=by simp [go_sem]
  clear hXb hGx
  go_wp2_with fail
  clear xk
  generalize w1.alloc (.cells #[.int .i64 2,.int .i64 0,.int .i64 0] 122)=wx at hXr hRr hS hC hWt hpl
  generalize w1.heap.size=X at hXr hbs hbX
  refine (YA p (T+3) a n cap 2 _ hS hC (by omega) (by omega)).mono ?_
  rintro e w2 ⟨⟨va,hva,rfl⟩,hSn,hWn⟩
  replace hS:=hSn
  replace hRr:=ZI hRr hWn hpB
  replace hXr:=ZI hXr hWn hpB
  replace hC:=hC.went hWn (Nat.le_of_lt hpl)
  replace hpl:=Nat.lt_of_lt_of_le hpl (hWn).size
  replace hWt:=hWt.trans hWn
  clear hSn hWn
  have hva2:va<2:=by omega
  have xs:w2.cell? ⟨X,1,none⟩=some (.int .i64 0):=by simpa using hXr.cellAt 1 (by omega)
  have fs:=hXr.frozenAt 1
  have hXn:=(hXr.stored 1 (.int .i64 (va:Int))).1
  have hRn:(w2.setCell ⟨X,1,none⟩ (.int .i64 (va:Int))).ownsRow w.heap.size 122 3 (.slice (some ⟨w.heap.size,0,none⟩) 1 1) 1 [.int .i64 0,.int .i64 0,.int .i64 0]:=ownsRow_setCell_other hRr (by simp [Value.ownBlock];omega) _
  have hGn:=Zh w2 X 1 (.int .i64 (va:Int))
  have hSn:=hS.grown hGn (fun k e=>by cases e;omega)
  have hWn:YG p w (w2.setCell ⟨X,1,none⟩ (.int .i64 (va:Int))):=hWt.grown hGn (fun k e=>by cases e;omega)
  have hCn:=hC.below (ZX hGn (show p≤X by omega) (Nat.le_of_lt hpl))
  have hpn:p<(w2.setCell ⟨X,1,none⟩ (.int .i64 (va:Int))).heap.size:=Nat.lt_of_lt_of_le hpl hGn.size
  simp only [List.set_cons_succ,List.set_cons_zero] at hXn
  clear hXr hRr hS hWt hC hpl hGn
  go_wp2_with fail
  clear xs fs
  generalize w2.setCell ⟨X,1,none⟩ (.int .i64 (va:Int))=w3 at hXn hRn hSn hWn hCn hpn
  have hXr:=hXn
  have hRr:=hRn
  have hS:=hSn
  have hWt:=hWn
  have hC:=hCn
  have hpl:=hpn
  clear hXn hRn hSn hWn hCn hpn
  refine (YA p (T+3+3) a n cap 2 _ hS hC (by omega) (by omega)).mono ?_
  rintro e w4 ⟨⟨vb,hvb,rfl⟩,hSn,hWn⟩
  replace hS:=hSn
  replace hRr:=ZI hRr hWn hpB
  replace hXr:=ZI hXr hWn hpB
  replace hC:=hC.went hWn (Nat.le_of_lt hpl)
  replace hpl:=Nat.lt_of_lt_of_le hpl (hWn).size
  replace hWt:=hWt.trans hWn
  clear hSn hWn
  have hvb2:vb<2:=by omega
  have xs:w4.cell? ⟨X,2,none⟩=some (.int .i64 0):=by simpa using hXr.cellAt 2 (by omega)
  have fs:=hXr.frozenAt 2
  have hXn:=(hXr.stored 2 (.int .i64 (vb:Int))).1
  have hRn:(w4.setCell ⟨X,2,none⟩ (.int .i64 (vb:Int))).ownsRow w.heap.size 122 3 (.slice (some ⟨w.heap.size,0,none⟩) 1 1) 1 [.int .i64 0,.int .i64 0,.int .i64 0]:=ownsRow_setCell_other hRr (by simp [Value.ownBlock];omega) _
  have hGn:=Zh w4 X 2 (.int .i64 (vb:Int))
  have hSn:=hS.grown hGn (fun k e=>by cases e;omega)
  have hWn:YG p w (w4.setCell ⟨X,2,none⟩ (.int .i64 (vb:Int))):=hWt.grown hGn (fun k e=>by cases e;omega)
  have hCn:=hC.below (ZX hGn (show p≤X by omega) (Nat.le_of_lt hpl))
  have hpn:p<(w4.setCell ⟨X,2,none⟩ (.int .i64 (vb:Int))).heap.size:=Nat.lt_of_lt_of_le hpl hGn.size
  simp only [List.set_cons_succ,List.set_cons_zero] at hXn
  clear hXr hRr hS hWt hC hpl hGn
  have x0:(w4.setCell ⟨X,2,none⟩ (.int .i64 (vb:Int))).cell? ⟨X,0,none⟩=some (.int .i64 2):=by simpa using hXn.cellAt 0 (by omega)
  have x1:(w4.setCell ⟨X,2,none⟩ (.int .i64 (vb:Int))).cell? ⟨X,1,none⟩=some (.int .i64 (va:Int)):=by simpa using hXn.cellAt 1 (by omega)
  have x2:(w4.setCell ⟨X,2,none⟩ (.int .i64 (vb:Int))).cell? ⟨X,2,none⟩=some (.int .i64 (vb:Int)):=by simpa using hXn.cellAt 2 (by omega)
  have kR0:(w4.setCell ⟨X,2,none⟩ (.int .i64 (vb:Int))).cell? ⟨w.heap.size,0,none⟩=some (.int .i64 0):=by simpa using hRn.cellAt 0 (by omega)
  have kR1:(w4.setCell ⟨X,2,none⟩ (.int .i64 (vb:Int))).cell? ⟨w.heap.size,1,none⟩=some (.int .i64 0):=by simpa using hRn.cellAt 1 (by omega)
  have kR2:(w4.setCell ⟨X,2,none⟩ (.int .i64 (vb:Int))).cell? ⟨w.heap.size,2,none⟩=some (.int .i64 0):=by simpa using hRn.cellAt 2 (by omega)
  have fR0:=hRn.frozenAt 0
  have fR1:=hRn.frozenAt 1
  have fR2:=hRn.frozenAt 2
  have hR9:=(((hRn.stored 0 (.int .i64 2)).1.stored 1 (.int .i64 (va:Int))).1.stored 2 (.int .i64 (vb:Int))).1
  have g9:=ZE (Zh (w4.setCell ⟨X,2,none⟩ (.int .i64 (vb:Int))) w.heap.size 0 (.int .i64 2)) (ZE (Zh _ w.heap.size 1 (.int .i64 (va:Int))) (Zh _ w.heap.size 2 (.int .i64 (vb:Int))))
  have hS9:=(hSn.grown g9 (fun k e=>by cases e;omega)).mono (show _≤T+9 by omega)
  have hW9:=hWn.grown g9 (fun k e=>by cases e;omega)
  clear hRn hXn hSn hWn hCn hpn g9
  go_wp2
  clear kR0 kR1 kR2 fR0 fR1 fR2 x0 x1 x2 xs fs
  generalize (((w4.setCell ⟨X,2,none⟩ (.int .i64 (vb:Int))).setCell ⟨w.heap.size,0,none⟩ (.int .i64 2)).setCell ⟨w.heap.size,1,none⟩ (.int .i64 (va:Int))).setCell ⟨w.heap.size,2,none⟩ (.int .i64 (vb:Int))=w9 at hR9 hS9 hW9
  have k0:w9.cell? ⟨w.heap.size,0,none⟩=some (.int .i64 2):=by simpa using hR9.cellAt 0 (by omega)
  have k1:w9.cell? ⟨w.heap.size,1,none⟩=some (.int .i64 (va:Int)):=by simpa using hR9.cellAt 1 (by omega)
  have k2:w9.cell? ⟨w.heap.size,2,none⟩=some (.int .i64 (vb:Int)):=by simpa using hR9.cellAt 2 (by omega)
  refine bodyPost_ret (by simp [results,Tryz.results57,go_sem,k0,k1,k2];try rfl) rfl ?_
  refine ⟨⟨(2,(va:Int),(vb:Int)),?_,rfl⟩,hS9,hW9⟩
  have ha:va=0∨va=1:=by omega
  have hb:vb=0∨vb=1:=by omega
  refine ⟨?_,?_⟩
  ·rcases ha with rfl | rfl<;>rcases hb with rfl | rfl<;>decide
  exact XA (by show (2:Int)≠7;decide)
 ·have hXb:=Sm (w1) (.int .i64 3) (.int .i64 0) (.int .i64 0) 122 w.heap.size hbs
  have hXr:=hXb
  have hGx:w1.grownBy (w1.alloc (.cells #[.int .i64 3,.int .i64 0,.int .i64 0] 122)) none:=World.grownBy_alloc w1 _ none
  replace hRr:=hRr.alloc (.cells #[.int .i64 3,.int .i64 0,.int .i64 0] 122)
  replace hS:=hS.alloc (.cells #[.int .i64 3,.int .i64 0,.int .i64 0] 122)
  replace hC:=hC.below ((Below.refl p w1).alloc (Nat.le_of_lt hpl) (.cells #[.int .i64 3,.int .i64 0,.int .i64 0] 122))
  replace hWt:=hWt.alloc (.cells #[.int .i64 3,.int .i64 0,.int .i64 0] 122)
  replace hpl:p<(w1.alloc (.cells #[.int .i64 3,.int .i64 0,.int .i64 0] 122)).heap.size:=by simp;omega
  have xk:(w1.alloc (.cells #[.int .i64 3,.int .i64 0,.int .i64 0] 122)).cell? ⟨w1.heap.size,0,none⟩=some (.int .i64 3):=by simp [go_sem]
  clear hXb hGx
  go_wp2_with fail
  clear xk
  generalize w1.alloc (.cells #[.int .i64 3,.int .i64 0,.int .i64 0] 122)=wx at hXr hRr hS hC hWt hpl
  generalize w1.heap.size=X at hXr hbs hbX
  refine (YA p (T+3) a n cap 2 _ hS hC (by omega) (by omega)).mono ?_
  rintro e w2 ⟨⟨va,hva,rfl⟩,hSn,hWn⟩
  replace hS:=hSn
  replace hRr:=ZI hRr hWn hpB
  replace hXr:=ZI hXr hWn hpB
  replace hC:=hC.went hWn (Nat.le_of_lt hpl)
  replace hpl:=Nat.lt_of_lt_of_le hpl (hWn).size
  replace hWt:=hWt.trans hWn
  clear hSn hWn
  have hva2:va<2:=by omega
  have xs:w2.cell? ⟨X,1,none⟩=some (.int .i64 0):=by simpa using hXr.cellAt 1 (by omega)
  have fs:=hXr.frozenAt 1
  have hXn:=(hXr.stored 1 (.int .i64 (va:Int))).1
  have hRn:(w2.setCell ⟨X,1,none⟩ (.int .i64 (va:Int))).ownsRow w.heap.size 122 3 (.slice (some ⟨w.heap.size,0,none⟩) 1 1) 1 [.int .i64 0,.int .i64 0,.int .i64 0]:=ownsRow_setCell_other hRr (by simp [Value.ownBlock];omega) _
  have hGn:=Zh w2 X 1 (.int .i64 (va:Int))
  have hSn:=hS.grown hGn (fun k e=>by cases e;omega)
  have hWn:YG p w (w2.setCell ⟨X,1,none⟩ (.int .i64 (va:Int))):=hWt.grown hGn (fun k e=>by cases e;omega)
  have hCn:=hC.below (ZX hGn (show p≤X by omega) (Nat.le_of_lt hpl))
  have hpn:p<(w2.setCell ⟨X,1,none⟩ (.int .i64 (va:Int))).heap.size:=Nat.lt_of_lt_of_le hpl hGn.size
  simp only [List.set_cons_succ,List.set_cons_zero] at hXn
  clear hXr hRr hS hWt hC hpl hGn
  go_wp2_with fail
  clear xs fs
  generalize w2.setCell ⟨X,1,none⟩ (.int .i64 (va:Int))=w3 at hXn hRn hSn hWn hCn hpn
  have hXr:=hXn
  have hRr:=hRn
  have hS:=hSn
  have hWt:=hWn
  have hC:=hCn
  have hpl:=hpn
  clear hXn hRn hSn hWn hCn hpn
  refine (YA p (T+3+3) a n cap 3 _ hS hC (by omega) (by omega)).mono ?_
  rintro e w4 ⟨⟨vb,hvb,rfl⟩,hSn,hWn⟩
  replace hS:=hSn
  replace hRr:=ZI hRr hWn hpB
  replace hXr:=ZI hXr hWn hpB
  replace hC:=hC.went hWn (Nat.le_of_lt hpl)
  replace hpl:=Nat.lt_of_lt_of_le hpl (hWn).size
  replace hWt:=hWt.trans hWn
  clear hSn hWn
  have hvb2:vb<3:=by omega
  have xs:w4.cell? ⟨X,2,none⟩=some (.int .i64 0):=by simpa using hXr.cellAt 2 (by omega)
  have fs:=hXr.frozenAt 2
  have hXn:=(hXr.stored 2 (.int .i64 (vb:Int))).1
  have hRn:(w4.setCell ⟨X,2,none⟩ (.int .i64 (vb:Int))).ownsRow w.heap.size 122 3 (.slice (some ⟨w.heap.size,0,none⟩) 1 1) 1 [.int .i64 0,.int .i64 0,.int .i64 0]:=ownsRow_setCell_other hRr (by simp [Value.ownBlock];omega) _
  have hGn:=Zh w4 X 2 (.int .i64 (vb:Int))
  have hSn:=hS.grown hGn (fun k e=>by cases e;omega)
  have hWn:YG p w (w4.setCell ⟨X,2,none⟩ (.int .i64 (vb:Int))):=hWt.grown hGn (fun k e=>by cases e;omega)
  have hCn:=hC.below (ZX hGn (show p≤X by omega) (Nat.le_of_lt hpl))
  have hpn:p<(w4.setCell ⟨X,2,none⟩ (.int .i64 (vb:Int))).heap.size:=Nat.lt_of_lt_of_le hpl hGn.size
  simp only [List.set_cons_succ,List.set_cons_zero] at hXn
  clear hXr hRr hS hWt hC hpl hGn
  have x0:(w4.setCell ⟨X,2,none⟩ (.int .i64 (vb:Int))).cell? ⟨X,0,none⟩=some (.int .i64 3):=by simpa using hXn.cellAt 0 (by omega)
  have x1:(w4.setCell ⟨X,2,none⟩ (.int .i64 (vb:Int))).cell? ⟨X,1,none⟩=some (.int .i64 (va:Int)):=by simpa using hXn.cellAt 1 (by omega)
  have x2:(w4.setCell ⟨X,2,none⟩ (.int .i64 (vb:Int))).cell? ⟨X,2,none⟩=some (.int .i64 (vb:Int)):=by simpa using hXn.cellAt 2 (by omega)
  have kR0:(w4.setCell ⟨X,2,none⟩ (.int .i64 (vb:Int))).cell? ⟨w.heap.size,0,none⟩=some (.int .i64 0):=by simpa using hRn.cellAt 0 (by omega)
  have kR1:(w4.setCell ⟨X,2,none⟩ (.int .i64 (vb:Int))).cell? ⟨w.heap.size,1,none⟩=some (.int .i64 0):=by simpa using hRn.cellAt 1 (by omega)
  have kR2:(w4.setCell ⟨X,2,none⟩ (.int .i64 (vb:Int))).cell? ⟨w.heap.size,2,none⟩=some (.int .i64 0):=by simpa using hRn.cellAt 2 (by omega)
  have fR0:=hRn.frozenAt 0
  have fR1:=hRn.frozenAt 1
  have fR2:=hRn.frozenAt 2
  have hR9:=(((hRn.stored 0 (.int .i64 3)).1.stored 1 (.int .i64 (va:Int))).1.stored 2 (.int .i64 (vb:Int))).1
  have g9:=ZE (Zh (w4.setCell ⟨X,2,none⟩ (.int .i64 (vb:Int))) w.heap.size 0 (.int .i64 3)) (ZE (Zh _ w.heap.size 1 (.int .i64 (va:Int))) (Zh _ w.heap.size 2 (.int .i64 (vb:Int))))
  have hS9:=(hSn.grown g9 (fun k e=>by cases e;omega)).mono (show _≤T+9 by omega)
  have hW9:=hWn.grown g9 (fun k e=>by cases e;omega)
  clear hRn hXn hSn hWn hCn hpn g9
  go_wp2
  clear kR0 kR1 kR2 fR0 fR1 fR2 x0 x1 x2 xs fs
  generalize (((w4.setCell ⟨X,2,none⟩ (.int .i64 (vb:Int))).setCell ⟨w.heap.size,0,none⟩ (.int .i64 3)).setCell ⟨w.heap.size,1,none⟩ (.int .i64 (va:Int))).setCell ⟨w.heap.size,2,none⟩ (.int .i64 (vb:Int))=w9 at hR9 hS9 hW9
  have k0:w9.cell? ⟨w.heap.size,0,none⟩=some (.int .i64 3):=by simpa using hR9.cellAt 0 (by omega)
  have k1:w9.cell? ⟨w.heap.size,1,none⟩=some (.int .i64 (va:Int)):=by simpa using hR9.cellAt 1 (by omega)
  have k2:w9.cell? ⟨w.heap.size,2,none⟩=some (.int .i64 (vb:Int)):=by simpa using hR9.cellAt 2 (by omega)
  refine bodyPost_ret (by simp [results,Tryz.results57,go_sem,k0,k1,k2];try rfl) rfl ?_
  refine ⟨⟨(3,(va:Int),(vb:Int)),?_,rfl⟩,hS9,hW9⟩
  have ha:va=0∨va=1:=by omega
  have hb:vb=0∨vb=1∨vb=2:=by omega
  refine ⟨?_,?_⟩
  ·rcases ha with rfl | rfl<;>rcases hb with rfl | rfl | rfl<;>decide
  exact XA (by show (3:Int)≠7;decide)
 ·have hXb:=Sm (w1) (.int .i64 4) (.int .i64 0) (.int .i64 0) 122 w.heap.size hbs
  have hXr:=hXb
  have hGx:w1.grownBy (w1.alloc (.cells #[.int .i64 4,.int .i64 0,.int .i64 0] 122)) none:=World.grownBy_alloc w1 _ none
  replace hRr:=hRr.alloc (.cells #[.int .i64 4,.int .i64 0,.int .i64 0] 122)
  replace hS:=hS.alloc (.cells #[.int .i64 4,.int .i64 0,.int .i64 0] 122)
  replace hC:=hC.below ((Below.refl p w1).alloc (Nat.le_of_lt hpl) (.cells #[.int .i64 4,.int .i64 0,.int .i64 0] 122))
  replace hWt:=hWt.alloc (.cells #[.int .i64 4,.int .i64 0,.int .i64 0] 122)
  replace hpl:p<(w1.alloc (.cells #[.int .i64 4,.int .i64 0,.int .i64 0] 122)).heap.size:=by simp;omega
  have xk:(w1.alloc (.cells #[.int .i64 4,.int .i64 0,.int .i64 0] 122)).cell? ⟨w1.heap.size,0,none⟩=some (.int .i64 4):=by simp [go_sem]
  clear hXb hGx
  go_wp2_with fail
  clear xk
  generalize w1.alloc (.cells #[.int .i64 4,.int .i64 0,.int .i64 0] 122)=wx at hXr hRr hS hC hWt hpl
  generalize w1.heap.size=X at hXr hbs hbX
  refine (YA p (T+3) a n cap 2 _ hS hC (by omega) (by omega)).mono ?_
  rintro e w2 ⟨⟨va,hva,rfl⟩,hSn,hWn⟩
  replace hS:=hSn
  replace hRr:=ZI hRr hWn hpB
  replace hXr:=ZI hXr hWn hpB
  replace hC:=hC.went hWn (Nat.le_of_lt hpl)
  replace hpl:=Nat.lt_of_lt_of_le hpl (hWn).size
  replace hWt:=hWt.trans hWn
  clear hSn hWn
  have hva2:va<2:=by omega
  have xs:w2.cell? ⟨X,1,none⟩=some (.int .i64 0):=by simpa using hXr.cellAt 1 (by omega)
  have fs:=hXr.frozenAt 1
  have hXn:=(hXr.stored 1 (.int .i64 (va:Int))).1
  have hRn:(w2.setCell ⟨X,1,none⟩ (.int .i64 (va:Int))).ownsRow w.heap.size 122 3 (.slice (some ⟨w.heap.size,0,none⟩) 1 1) 1 [.int .i64 0,.int .i64 0,.int .i64 0]:=ownsRow_setCell_other hRr (by simp [Value.ownBlock];omega) _
  have hGn:=Zh w2 X 1 (.int .i64 (va:Int))
  have hSn:=hS.grown hGn (fun k e=>by cases e;omega)
  have hWn:YG p w (w2.setCell ⟨X,1,none⟩ (.int .i64 (va:Int))):=hWt.grown hGn (fun k e=>by cases e;omega)
  have hCn:=hC.below (ZX hGn (show p≤X by omega) (Nat.le_of_lt hpl))
  have hpn:p<(w2.setCell ⟨X,1,none⟩ (.int .i64 (va:Int))).heap.size:=Nat.lt_of_lt_of_le hpl hGn.size
  simp only [List.set_cons_succ,List.set_cons_zero] at hXn
  clear hXr hRr hS hWt hC hpl hGn
  go_wp2_with fail
  clear xs fs
  generalize w2.setCell ⟨X,1,none⟩ (.int .i64 (va:Int))=w3 at hXn hRn hSn hWn hCn hpn
  have hXr:=hXn
  have hRr:=hRn
  have hS:=hSn
  have hWt:=hWn
  have hC:=hCn
  have hpl:=hpn
  clear hXn hRn hSn hWn hCn hpn
  refine (YA p (T+3+3) a n cap 3 _ hS hC (by omega) (by omega)).mono ?_
  rintro e w4 ⟨⟨vb,hvb,rfl⟩,hSn,hWn⟩
  replace hS:=hSn
  replace hRr:=ZI hRr hWn hpB
  replace hXr:=ZI hXr hWn hpB
  replace hC:=hC.went hWn (Nat.le_of_lt hpl)
  replace hpl:=Nat.lt_of_lt_of_le hpl (hWn).size
  replace hWt:=hWt.trans hWn
  clear hSn hWn
  have hvb2:vb<3:=by omega
  have xs:w4.cell? ⟨X,2,none⟩=some (.int .i64 0):=by simpa using hXr.cellAt 2 (by omega)
  have fs:=hXr.frozenAt 2
  have hXn:=(hXr.stored 2 (.int .i64 (vb:Int))).1
  have hRn:(w4.setCell ⟨X,2,none⟩ (.int .i64 (vb:Int))).ownsRow w.heap.size 122 3 (.slice (some ⟨w.heap.size,0,none⟩) 1 1) 1 [.int .i64 0,.int .i64 0,.int .i64 0]:=ownsRow_setCell_other hRr (by simp [Value.ownBlock];omega) _
  have hGn:=Zh w4 X 2 (.int .i64 (vb:Int))
  have hSn:=hS.grown hGn (fun k e=>by cases e;omega)
  have hWn:YG p w (w4.setCell ⟨X,2,none⟩ (.int .i64 (vb:Int))):=hWt.grown hGn (fun k e=>by cases e;omega)
  have hCn:=hC.below (ZX hGn (show p≤X by omega) (Nat.le_of_lt hpl))
  have hpn:p<(w4.setCell ⟨X,2,none⟩ (.int .i64 (vb:Int))).heap.size:=Nat.lt_of_lt_of_le hpl hGn.size
  simp only [List.set_cons_succ,List.set_cons_zero] at hXn
  clear hXr hRr hS hWt hC hpl hGn
  have x0:(w4.setCell ⟨X,2,none⟩ (.int .i64 (vb:Int))).cell? ⟨X,0,none⟩=some (.int .i64 4):=by simpa using hXn.cellAt 0 (by omega)
  have x1:(w4.setCell ⟨X,2,none⟩ (.int .i64 (vb:Int))).cell? ⟨X,1,none⟩=some (.int .i64 (va:Int)):=by simpa using hXn.cellAt 1 (by omega)
  have x2:(w4.setCell ⟨X,2,none⟩ (.int .i64 (vb:Int))).cell? ⟨X,2,none⟩=some (.int .i64 (vb:Int)):=by simpa using hXn.cellAt 2 (by omega)
  have kR0:(w4.setCell ⟨X,2,none⟩ (.int .i64 (vb:Int))).cell? ⟨w.heap.size,0,none⟩=some (.int .i64 0):=by simpa using hRn.cellAt 0 (by omega)
  have kR1:(w4.setCell ⟨X,2,none⟩ (.int .i64 (vb:Int))).cell? ⟨w.heap.size,1,none⟩=some (.int .i64 0):=by simpa using hRn.cellAt 1 (by omega)
  have kR2:(w4.setCell ⟨X,2,none⟩ (.int .i64 (vb:Int))).cell? ⟨w.heap.size,2,none⟩=some (.int .i64 0):=by simpa using hRn.cellAt 2 (by omega)
  have fR0:=hRn.frozenAt 0
  have fR1:=hRn.frozenAt 1
  have fR2:=hRn.frozenAt 2
  have hR9:=(((hRn.stored 0 (.int .i64 4)).1.stored 1 (.int .i64 (va:Int))).1.stored 2 (.int .i64 (vb:Int))).1
  have g9:=ZE (Zh (w4.setCell ⟨X,2,none⟩ (.int .i64 (vb:Int))) w.heap.size 0 (.int .i64 4)) (ZE (Zh _ w.heap.size 1 (.int .i64 (va:Int))) (Zh _ w.heap.size 2 (.int .i64 (vb:Int))))
  have hS9:=(hSn.grown g9 (fun k e=>by cases e;omega)).mono (show _≤T+9 by omega)
  have hW9:=hWn.grown g9 (fun k e=>by cases e;omega)
  clear hRn hXn hSn hWn hCn hpn g9
  go_wp2
  clear kR0 kR1 kR2 fR0 fR1 fR2 x0 x1 x2 xs fs
  generalize (((w4.setCell ⟨X,2,none⟩ (.int .i64 (vb:Int))).setCell ⟨w.heap.size,0,none⟩ (.int .i64 4)).setCell ⟨w.heap.size,1,none⟩ (.int .i64 (va:Int))).setCell ⟨w.heap.size,2,none⟩ (.int .i64 (vb:Int))=w9 at hR9 hS9 hW9
  have k0:w9.cell? ⟨w.heap.size,0,none⟩=some (.int .i64 4):=by simpa using hR9.cellAt 0 (by omega)
  have k1:w9.cell? ⟨w.heap.size,1,none⟩=some (.int .i64 (va:Int)):=by simpa using hR9.cellAt 1 (by omega)
  have k2:w9.cell? ⟨w.heap.size,2,none⟩=some (.int .i64 (vb:Int)):=by simpa using hR9.cellAt 2 (by omega)
  refine bodyPost_ret (by simp [results,Tryz.results57,go_sem,k0,k1,k2];try rfl) rfl ?_
  refine ⟨⟨(4,(va:Int),(vb:Int)),?_,rfl⟩,hS9,hW9⟩
  have ha:va=0∨va=1:=by omega
  have hb:vb=0∨vb=1∨vb=2:=by omega
  refine ⟨?_,?_⟩
  ·rcases ha with rfl | rfl<;>rcases hb with rfl | rfl | rfl<;>decide
  exact XA (by show (4:Int)≠7;decide)
 ·have hXb:=Sm (w1) (.int .i64 5) (.int .i64 0) (.int .i64 0) 122 w.heap.size hbs
  have hXr:=hXb
  have hGx:w1.grownBy (w1.alloc (.cells #[.int .i64 5,.int .i64 0,.int .i64 0] 122)) none:=World.grownBy_alloc w1 _ none
  replace hRr:=hRr.alloc (.cells #[.int .i64 5,.int .i64 0,.int .i64 0] 122)
  replace hS:=hS.alloc (.cells #[.int .i64 5,.int .i64 0,.int .i64 0] 122)
  replace hC:=hC.below ((Below.refl p w1).alloc (Nat.le_of_lt hpl) (.cells #[.int .i64 5,.int .i64 0,.int .i64 0] 122))
  replace hWt:=hWt.alloc (.cells #[.int .i64 5,.int .i64 0,.int .i64 0] 122)
  replace hpl:p<(w1.alloc (.cells #[.int .i64 5,.int .i64 0,.int .i64 0] 122)).heap.size:=by simp;omega
  have xk:(w1.alloc (.cells #[.int .i64 5,.int .i64 0,.int .i64 0] 122)).cell? ⟨w1.heap.size,0,none⟩=some (.int .i64 5):=by simp [go_sem]
  clear hXb hGx
  go_wp2_with fail
  clear xk
  generalize w1.alloc (.cells #[.int .i64 5,.int .i64 0,.int .i64 0] 122)=wx at hXr hRr hS hC hWt hpl
  generalize w1.heap.size=X at hXr hbs hbX
  refine (YA p (T+3) a n cap 2 _ hS hC (by omega) (by omega)).mono ?_
  rintro e w2 ⟨⟨va,hva,rfl⟩,hSn,hWn⟩
  replace hS:=hSn
  replace hRr:=ZI hRr hWn hpB
  replace hXr:=ZI hXr hWn hpB
  replace hC:=hC.went hWn (Nat.le_of_lt hpl)
  replace hpl:=Nat.lt_of_lt_of_le hpl (hWn).size
  replace hWt:=hWt.trans hWn
  clear hSn hWn
  have hva2:va<2:=by omega
  have xs:w2.cell? ⟨X,1,none⟩=some (.int .i64 0):=by simpa using hXr.cellAt 1 (by omega)
  have fs:=hXr.frozenAt 1
  have hXn:=(hXr.stored 1 (.int .i64 (va:Int))).1
  have hRn:(w2.setCell ⟨X,1,none⟩ (.int .i64 (va:Int))).ownsRow w.heap.size 122 3 (.slice (some ⟨w.heap.size,0,none⟩) 1 1) 1 [.int .i64 0,.int .i64 0,.int .i64 0]:=ownsRow_setCell_other hRr (by simp [Value.ownBlock];omega) _
  have hGn:=Zh w2 X 1 (.int .i64 (va:Int))
  have hSn:=hS.grown hGn (fun k e=>by cases e;omega)
  have hWn:YG p w (w2.setCell ⟨X,1,none⟩ (.int .i64 (va:Int))):=hWt.grown hGn (fun k e=>by cases e;omega)
  have hCn:=hC.below (ZX hGn (show p≤X by omega) (Nat.le_of_lt hpl))
  have hpn:p<(w2.setCell ⟨X,1,none⟩ (.int .i64 (va:Int))).heap.size:=Nat.lt_of_lt_of_le hpl hGn.size
  simp only [List.set_cons_succ,List.set_cons_zero] at hXn
  clear hXr hRr hS hWt hC hpl hGn
  have x0:(w2.setCell ⟨X,1,none⟩ (.int .i64 (va:Int))).cell? ⟨X,0,none⟩=some (.int .i64 5):=by simpa using hXn.cellAt 0 (by omega)
  have x1:(w2.setCell ⟨X,1,none⟩ (.int .i64 (va:Int))).cell? ⟨X,1,none⟩=some (.int .i64 (va:Int)):=by simpa using hXn.cellAt 1 (by omega)
  have x2:(w2.setCell ⟨X,1,none⟩ (.int .i64 (va:Int))).cell? ⟨X,2,none⟩=some (.int .i64 0):=by simpa using hXn.cellAt 2 (by omega)
  have kR0:(w2.setCell ⟨X,1,none⟩ (.int .i64 (va:Int))).cell? ⟨w.heap.size,0,none⟩=some (.int .i64 0):=by simpa using hRn.cellAt 0 (by omega)
  have kR1:(w2.setCell ⟨X,1,none⟩ (.int .i64 (va:Int))).cell? ⟨w.heap.size,1,none⟩=some (.int .i64 0):=by simpa using hRn.cellAt 1 (by omega)
  have kR2:(w2.setCell ⟨X,1,none⟩ (.int .i64 (va:Int))).cell? ⟨w.heap.size,2,none⟩=some (.int .i64 0):=by simpa using hRn.cellAt 2 (by omega)
  have fR0:=hRn.frozenAt 0
  have fR1:=hRn.frozenAt 1
  have fR2:=hRn.frozenAt 2
  have hR9:=(((hRn.stored 0 (.int .i64 5)).1.stored 1 (.int .i64 (va:Int))).1.stored 2 (.int .i64 0)).1
  have g9:=ZE (Zh (w2.setCell ⟨X,1,none⟩ (.int .i64 (va:Int))) w.heap.size 0 (.int .i64 5)) (ZE (Zh _ w.heap.size 1 (.int .i64 (va:Int))) (Zh _ w.heap.size 2 (.int .i64 0)))
  have hS9:=(hSn.grown g9 (fun k e=>by cases e;omega)).mono (show _≤T+9 by omega)
  have hW9:=hWn.grown g9 (fun k e=>by cases e;omega)
  clear hRn hXn hSn hWn hCn hpn g9
  go_wp2
  clear kR0 kR1 kR2 fR0 fR1 fR2 x0 x1 x2 xs fs
  generalize (((w2.setCell ⟨X,1,none⟩ (.int .i64 (va:Int))).setCell ⟨w.heap.size,0,none⟩ (.int .i64 5)).setCell ⟨w.heap.size,1,none⟩ (.int .i64 (va:Int))).setCell ⟨w.heap.size,2,none⟩ (.int .i64 0)=w9 at hR9 hS9 hW9
  have k0:w9.cell? ⟨w.heap.size,0,none⟩=some (.int .i64 5):=by simpa using hR9.cellAt 0 (by omega)
  have k1:w9.cell? ⟨w.heap.size,1,none⟩=some (.int .i64 (va:Int)):=by simpa using hR9.cellAt 1 (by omega)
  have k2:w9.cell? ⟨w.heap.size,2,none⟩=some (.int .i64 0):=by simpa using hR9.cellAt 2 (by omega)
  refine bodyPost_ret (by simp [results,Tryz.results57,go_sem,k0,k1,k2];try rfl) rfl ?_
  refine ⟨⟨(5,(va:Int),0),?_,rfl⟩,hS9,hW9⟩
  have ha:va=0∨va=1:=by omega
  refine ⟨?_,?_⟩
  ·rcases ha with rfl | rfl<;>decide
  exact XA (by simp)
 ·have hXb:=Sm (w1) (.int .i64 6) (.int .i64 0) (.int .i64 0) 122 w.heap.size hbs
  have hXr:=hXb
  have hGx:w1.grownBy (w1.alloc (.cells #[.int .i64 6,.int .i64 0,.int .i64 0] 122)) none:=World.grownBy_alloc w1 _ none
  replace hRr:=hRr.alloc (.cells #[.int .i64 6,.int .i64 0,.int .i64 0] 122)
  replace hS:=hS.alloc (.cells #[.int .i64 6,.int .i64 0,.int .i64 0] 122)
  replace hC:=hC.below ((Below.refl p w1).alloc (Nat.le_of_lt hpl) (.cells #[.int .i64 6,.int .i64 0,.int .i64 0] 122))
  replace hWt:=hWt.alloc (.cells #[.int .i64 6,.int .i64 0,.int .i64 0] 122)
  replace hpl:p<(w1.alloc (.cells #[.int .i64 6,.int .i64 0,.int .i64 0] 122)).heap.size:=by simp;omega
  have xk:(w1.alloc (.cells #[.int .i64 6,.int .i64 0,.int .i64 0] 122)).cell? ⟨w1.heap.size,0,none⟩=some (.int .i64 6):=by simp [go_sem]
  clear hXb hGx
  go_wp2_with fail
  clear xk
  generalize w1.alloc (.cells #[.int .i64 6,.int .i64 0,.int .i64 0] 122)=wx at hXr hRr hS hC hWt hpl
  generalize w1.heap.size=X at hXr hbs hbX
  refine (YA p (T+3) a n cap 2 _ hS hC (by omega) (by omega)).mono ?_
  rintro e w2 ⟨⟨va,hva,rfl⟩,hSn,hWn⟩
  replace hS:=hSn
  replace hRr:=ZI hRr hWn hpB
  replace hXr:=ZI hXr hWn hpB
  replace hC:=hC.went hWn (Nat.le_of_lt hpl)
  replace hpl:=Nat.lt_of_lt_of_le hpl (hWn).size
  replace hWt:=hWt.trans hWn
  clear hSn hWn
  have hva2:va<2:=by omega
  have xs:w2.cell? ⟨X,1,none⟩=some (.int .i64 0):=by simpa using hXr.cellAt 1 (by omega)
  have fs:=hXr.frozenAt 1
  have hXn:=(hXr.stored 1 (.int .i64 (va:Int))).1
  have hRn:(w2.setCell ⟨X,1,none⟩ (.int .i64 (va:Int))).ownsRow w.heap.size 122 3 (.slice (some ⟨w.heap.size,0,none⟩) 1 1) 1 [.int .i64 0,.int .i64 0,.int .i64 0]:=ownsRow_setCell_other hRr (by simp [Value.ownBlock];omega) _
  have hGn:=Zh w2 X 1 (.int .i64 (va:Int))
  have hSn:=hS.grown hGn (fun k e=>by cases e;omega)
  have hWn:YG p w (w2.setCell ⟨X,1,none⟩ (.int .i64 (va:Int))):=hWt.grown hGn (fun k e=>by cases e;omega)
  have hCn:=hC.below (ZX hGn (show p≤X by omega) (Nat.le_of_lt hpl))
  have hpn:p<(w2.setCell ⟨X,1,none⟩ (.int .i64 (va:Int))).heap.size:=Nat.lt_of_lt_of_le hpl hGn.size
  simp only [List.set_cons_succ,List.set_cons_zero] at hXn
  clear hXr hRr hS hWt hC hpl hGn
  have x0:(w2.setCell ⟨X,1,none⟩ (.int .i64 (va:Int))).cell? ⟨X,0,none⟩=some (.int .i64 6):=by simpa using hXn.cellAt 0 (by omega)
  have x1:(w2.setCell ⟨X,1,none⟩ (.int .i64 (va:Int))).cell? ⟨X,1,none⟩=some (.int .i64 (va:Int)):=by simpa using hXn.cellAt 1 (by omega)
  have x2:(w2.setCell ⟨X,1,none⟩ (.int .i64 (va:Int))).cell? ⟨X,2,none⟩=some (.int .i64 0):=by simpa using hXn.cellAt 2 (by omega)
  have kR0:(w2.setCell ⟨X,1,none⟩ (.int .i64 (va:Int))).cell? ⟨w.heap.size,0,none⟩=some (.int .i64 0):=by simpa using hRn.cellAt 0 (by omega)
  have kR1:(w2.setCell ⟨X,1,none⟩ (.int .i64 (va:Int))).cell? ⟨w.heap.size,1,none⟩=some (.int .i64 0):=by simpa using hRn.cellAt 1 (by omega)
  have kR2:(w2.setCell ⟨X,1,none⟩ (.int .i64 (va:Int))).cell? ⟨w.heap.size,2,none⟩=some (.int .i64 0):=by simpa using hRn.cellAt 2 (by omega)
  have fR0:=hRn.frozenAt 0
  have fR1:=hRn.frozenAt 1
  have fR2:=hRn.frozenAt 2
  have hR9:=(((hRn.stored 0 (.int .i64 6)).1.stored 1 (.int .i64 (va:Int))).1.stored 2 (.int .i64 0)).1
  have g9:=ZE (Zh (w2.setCell ⟨X,1,none⟩ (.int .i64 (va:Int))) w.heap.size 0 (.int .i64 6)) (ZE (Zh _ w.heap.size 1 (.int .i64 (va:Int))) (Zh _ w.heap.size 2 (.int .i64 0)))
  have hS9:=(hSn.grown g9 (fun k e=>by cases e;omega)).mono (show _≤T+9 by omega)
  have hW9:=hWn.grown g9 (fun k e=>by cases e;omega)
  clear hRn hXn hSn hWn hCn hpn g9
  go_wp2
  clear kR0 kR1 kR2 fR0 fR1 fR2 x0 x1 x2 xs fs
  generalize (((w2.setCell ⟨X,1,none⟩ (.int .i64 (va:Int))).setCell ⟨w.heap.size,0,none⟩ (.int .i64 6)).setCell ⟨w.heap.size,1,none⟩ (.int .i64 (va:Int))).setCell ⟨w.heap.size,2,none⟩ (.int .i64 0)=w9 at hR9 hS9 hW9
  have k0:w9.cell? ⟨w.heap.size,0,none⟩=some (.int .i64 6):=by simpa using hR9.cellAt 0 (by omega)
  have k1:w9.cell? ⟨w.heap.size,1,none⟩=some (.int .i64 (va:Int)):=by simpa using hR9.cellAt 1 (by omega)
  have k2:w9.cell? ⟨w.heap.size,2,none⟩=some (.int .i64 0):=by simpa using hR9.cellAt 2 (by omega)
  refine bodyPost_ret (by simp [results,Tryz.results57,go_sem,k0,k1,k2];try rfl) rfl ?_
  refine ⟨⟨(6,(va:Int),0),?_,rfl⟩,hS9,hW9⟩
  have ha:va=0∨va=1:=by omega
  refine ⟨?_,?_⟩
  ·rcases ha with rfl | rfl<;>decide
  exact XA (by simp)
 ·have hXb:=Sm (w1) (.int .i64 7) (.int .i64 0) (.int .i64 0) 122 w.heap.size hbs
  have hXr:=hXb
  have hGx:w1.grownBy (w1.alloc (.cells #[.int .i64 7,.int .i64 0,.int .i64 0] 122)) none:=World.grownBy_alloc w1 _ none
  replace hRr:=hRr.alloc (.cells #[.int .i64 7,.int .i64 0,.int .i64 0] 122)
  replace hS:=hS.alloc (.cells #[.int .i64 7,.int .i64 0,.int .i64 0] 122)
  replace hC:=hC.below ((Below.refl p w1).alloc (Nat.le_of_lt hpl) (.cells #[.int .i64 7,.int .i64 0,.int .i64 0] 122))
  replace hWt:=hWt.alloc (.cells #[.int .i64 7,.int .i64 0,.int .i64 0] 122)
  replace hpl:p<(w1.alloc (.cells #[.int .i64 7,.int .i64 0,.int .i64 0] 122)).heap.size:=by simp;omega
  have xk:(w1.alloc (.cells #[.int .i64 7,.int .i64 0,.int .i64 0] 122)).cell? ⟨w1.heap.size,0,none⟩=some (.int .i64 7):=by simp [go_sem]
  clear hXb hGx
  go_wp2_with fail
  clear xk
  generalize w1.alloc (.cells #[.int .i64 7,.int .i64 0,.int .i64 0] 122)=wx at hXr hRr hS hC hWt hpl
  generalize w1.heap.size=X at hXr hbs hbX
  refine (YA p (T+3) a n cap 2 _ hS hC (by omega) (by omega)).mono ?_
  rintro e w2 ⟨⟨va,hva,rfl⟩,hSn,hWn⟩
  replace hS:=hSn
  replace hRr:=ZI hRr hWn hpB
  replace hXr:=ZI hXr hWn hpB
  replace hC:=hC.went hWn (Nat.le_of_lt hpl)
  replace hpl:=Nat.lt_of_lt_of_le hpl (hWn).size
  replace hWt:=hWt.trans hWn
  clear hSn hWn
  have hva2:va<2:=by omega
  have xs:w2.cell? ⟨X,1,none⟩=some (.int .i64 0):=by simpa using hXr.cellAt 1 (by omega)
  have fs:=hXr.frozenAt 1
  have hXn:=(hXr.stored 1 (.int .i64 (va:Int))).1
  have hRn:(w2.setCell ⟨X,1,none⟩ (.int .i64 (va:Int))).ownsRow w.heap.size 122 3 (.slice (some ⟨w.heap.size,0,none⟩) 1 1) 1 [.int .i64 0,.int .i64 0,.int .i64 0]:=ownsRow_setCell_other hRr (by simp [Value.ownBlock];omega) _
  have hGn:=Zh w2 X 1 (.int .i64 (va:Int))
  have hSn:=hS.grown hGn (fun k e=>by cases e;omega)
  have hWn:YG p w (w2.setCell ⟨X,1,none⟩ (.int .i64 (va:Int))):=hWt.grown hGn (fun k e=>by cases e;omega)
  have hCn:=hC.below (ZX hGn (show p≤X by omega) (Nat.le_of_lt hpl))
  have hpn:p<(w2.setCell ⟨X,1,none⟩ (.int .i64 (va:Int))).heap.size:=Nat.lt_of_lt_of_le hpl hGn.size
  simp only [List.set_cons_succ,List.set_cons_zero] at hXn
  clear hXr hRr hS hWt hC hpl hGn
  go_wp2_with fail
  clear xs fs
  generalize w2.setCell ⟨X,1,none⟩ (.int .i64 (va:Int))=w3 at hXn hRn hSn hWn hCn hpn
  have hXr:=hXn
  have hRr:=hRn
  have hS:=hSn
  have hWt:=hWn
  have hC:=hCn
  have hpl:=hpn
  clear hXn hRn hSn hWn hCn hpn
  refine (YA p (T+3+3) a n cap ((nn:Int) - (at0:Int)) _ hS hC (by omega) (by omega)).mono ?_
  rintro e w4 ⟨⟨vb,hvb,rfl⟩,hSn,hWn⟩
  replace hS:=hSn
  replace hRr:=ZI hRr hWn hpB
  replace hXr:=ZI hXr hWn hpB
  replace hC:=hC.went hWn (Nat.le_of_lt hpl)
  replace hpl:=Nat.lt_of_lt_of_le hpl (hWn).size
  replace hWt:=hWt.trans hWn
  clear hSn hWn
  obtain ⟨vt,hvt⟩:∃ vt:Nat,(at0:Int)+1+(vb:Int)=(vt:Int):=⟨at0+1+vb,by omega⟩
  have hvt1:at0+1≤vt:=by omega
  have hvt2:vt≤nn:=by omega
  have xs:w4.cell? ⟨X,2,none⟩=some (.int .i64 0):=by simpa using hXr.cellAt 2 (by omega)
  have fs:=hXr.frozenAt 2
  have hXn:=(hXr.stored 2 (.int .i64 (vt:Int))).1
  have hRn:(w4.setCell ⟨X,2,none⟩ (.int .i64 (vt:Int))).ownsRow w.heap.size 122 3 (.slice (some ⟨w.heap.size,0,none⟩) 1 1) 1 [.int .i64 0,.int .i64 0,.int .i64 0]:=ownsRow_setCell_other hRr (by simp [Value.ownBlock];omega) _
  have hGn:=Zh w4 X 2 (.int .i64 (vt:Int))
  have hSn:=hS.grown hGn (fun k e=>by cases e;omega)
  have hWn:YG p w (w4.setCell ⟨X,2,none⟩ (.int .i64 (vt:Int))):=hWt.grown hGn (fun k e=>by cases e;omega)
  have hCn:=hC.below (ZX hGn (show p≤X by omega) (Nat.le_of_lt hpl))
  have hpn:p<(w4.setCell ⟨X,2,none⟩ (.int .i64 (vt:Int))).heap.size:=Nat.lt_of_lt_of_le hpl hGn.size
  simp only [List.set_cons_succ,List.set_cons_zero] at hXn
  clear hXr hRr hS hWt hC hpl hGn
  have x0:(w4.setCell ⟨X,2,none⟩ (.int .i64 (vt:Int))).cell? ⟨X,0,none⟩=some (.int .i64 7):=by simpa using hXn.cellAt 0 (by omega)
  have x1:(w4.setCell ⟨X,2,none⟩ (.int .i64 (vt:Int))).cell? ⟨X,1,none⟩=some (.int .i64 (va:Int)):=by simpa using hXn.cellAt 1 (by omega)
  have x2:(w4.setCell ⟨X,2,none⟩ (.int .i64 (vt:Int))).cell? ⟨X,2,none⟩=some (.int .i64 (vt:Int)):=by simpa using hXn.cellAt 2 (by omega)
  have kR0:(w4.setCell ⟨X,2,none⟩ (.int .i64 (vt:Int))).cell? ⟨w.heap.size,0,none⟩=some (.int .i64 0):=by simpa using hRn.cellAt 0 (by omega)
  have kR1:(w4.setCell ⟨X,2,none⟩ (.int .i64 (vt:Int))).cell? ⟨w.heap.size,1,none⟩=some (.int .i64 0):=by simpa using hRn.cellAt 1 (by omega)
  have kR2:(w4.setCell ⟨X,2,none⟩ (.int .i64 (vt:Int))).cell? ⟨w.heap.size,2,none⟩=some (.int .i64 0):=by simpa using hRn.cellAt 2 (by omega)
  have fR0:=hRn.frozenAt 0
  have fR1:=hRn.frozenAt 1
  have fR2:=hRn.frozenAt 2
  have hR9:=(((hRn.stored 0 (.int .i64 7)).1.stored 1 (.int .i64 (va:Int))).1.stored 2 (.int .i64 (vt:Int))).1
  have g9:=ZE (Zh (w4.setCell ⟨X,2,none⟩ (.int .i64 (vt:Int))) w.heap.size 0 (.int .i64 7)) (ZE (Zh _ w.heap.size 1 (.int .i64 (va:Int))) (Zh _ w.heap.size 2 (.int .i64 (vt:Int))))
  have hS9:=(hSn.grown g9 (fun k e=>by cases e;omega)).mono (show _≤T+9 by omega)
  have hW9:=hWn.grown g9 (fun k e=>by cases e;omega)
  clear hRn hXn hSn hWn hCn hpn g9
  go_wp2
  clear kR0 kR1 kR2 fR0 fR1 fR2 x0 x1 x2 xs fs
  generalize (((w4.setCell ⟨X,2,none⟩ (.int .i64 (vt:Int))).setCell ⟨w.heap.size,0,none⟩ (.int .i64 7)).setCell ⟨w.heap.size,1,none⟩ (.int .i64 (va:Int))).setCell ⟨w.heap.size,2,none⟩ (.int .i64 (vt:Int))=w9 at hR9 hS9 hW9
  have k0:w9.cell? ⟨w.heap.size,0,none⟩=some (.int .i64 7):=by simpa using hR9.cellAt 0 (by omega)
  have k1:w9.cell? ⟨w.heap.size,1,none⟩=some (.int .i64 (va:Int)):=by simpa using hR9.cellAt 1 (by omega)
  have k2:w9.cell? ⟨w.heap.size,2,none⟩=some (.int .i64 (vt:Int)):=by simpa using hR9.cellAt 2 (by omega)
  refine bodyPost_ret (by simp [results,Tryz.results57,go_sem,k0,k1,k2];try rfl) rfl ?_
  refine ⟨⟨(7,(va:Int),(vt:Int)),?_,rfl⟩,hS9,hW9⟩
  have ha:va=0∨va=1:=by omega
  have hb:vt=1∨vt=2∨vt=3:=by omega
  refine ⟨?_,?_⟩
  ·rcases ha with rfl | rfl<;>rcases hb with rfl | rfl | rfl<;>decide
  exact MC hvt1 hvt2
 have hXb:=Sm (w1) (.int .i64 8) (.int .i64 0) (.int .i64 0) 122 w.heap.size hbs
 have hXr:=hXb
 have hGx:w1.grownBy (w1.alloc (.cells #[.int .i64 8,.int .i64 0,.int .i64 0] 122)) none:=World.grownBy_alloc w1 _ none
 replace hRr:=hRr.alloc (.cells #[.int .i64 8,.int .i64 0,.int .i64 0] 122)
 replace hS:=hS.alloc (.cells #[.int .i64 8,.int .i64 0,.int .i64 0] 122)
 replace hC:=hC.below ((Below.refl p w1).alloc (Nat.le_of_lt hpl) (.cells #[.int .i64 8,.int .i64 0,.int .i64 0] 122))
 replace hWt:=hWt.alloc (.cells #[.int .i64 8,.int .i64 0,.int .i64 0] 122)
 replace hpl:p<(w1.alloc (.cells #[.int .i64 8,.int .i64 0,.int .i64 0] 122)).heap.size:=by simp;omega
 have xk:(w1.alloc (.cells #[.int .i64 8,.int .i64 0,.int .i64 0] 122)).cell? ⟨w1.heap.size,0,none⟩=some (.int .i64 8):=by simp [go_sem]
 clear hXb hGx
 go_wp2_with fail
 clear xk
 generalize w1.alloc (.cells #[.int .i64 8,.int .i64 0,.int .i64 0] 122)=wx at hXr hRr hS hC hWt hpl
 generalize w1.heap.size=X at hXr hbs hbX
 refine (YA p (T+3) a n cap 2 _ hS hC (by omega) (by omega)).mono ?_
 rintro e w2 ⟨⟨va,hva,rfl⟩,hSn,hWn⟩
 replace hS:=hSn
 replace hRr:=ZI hRr hWn hpB
 replace hXr:=ZI hXr hWn hpB
 replace hC:=hC.went hWn (Nat.le_of_lt hpl)
 replace hpl:=Nat.lt_of_lt_of_le hpl (hWn).size
 replace hWt:=hWt.trans hWn
 clear hSn hWn
 have hva2:va<2:=by omega
 have xs:w2.cell? ⟨X,1,none⟩=some (.int .i64 0):=by simpa using hXr.cellAt 1 (by omega)
 have fs:=hXr.frozenAt 1
 have hXn:=(hXr.stored 1 (.int .i64 (va:Int))).1
 have hRn:(w2.setCell ⟨X,1,none⟩ (.int .i64 (va:Int))).ownsRow w.heap.size 122 3 (.slice (some ⟨w.heap.size,0,none⟩) 1 1) 1 [.int .i64 0,.int .i64 0,.int .i64 0]:=ownsRow_setCell_other hRr (by simp [Value.ownBlock];omega) _
 have hGn:=Zh w2 X 1 (.int .i64 (va:Int))
 have hSn:=hS.grown hGn (fun k e=>by cases e;omega)
 have hWn:YG p w (w2.setCell ⟨X,1,none⟩ (.int .i64 (va:Int))):=hWt.grown hGn (fun k e=>by cases e;omega)
 have hCn:=hC.below (ZX hGn (show p≤X by omega) (Nat.le_of_lt hpl))
 have hpn:p<(w2.setCell ⟨X,1,none⟩ (.int .i64 (va:Int))).heap.size:=Nat.lt_of_lt_of_le hpl hGn.size
 simp only [List.set_cons_succ,List.set_cons_zero] at hXn
 clear hXr hRr hS hWt hC hpl hGn
 go_wp2_with fail
 clear xs fs
 generalize w2.setCell ⟨X,1,none⟩ (.int .i64 (va:Int))=w3 at hXn hRn hSn hWn hCn hpn
 have hXr:=hXn
 have hRr:=hRn
 have hS:=hSn
 have hWt:=hWn
 have hC:=hCn
 have hpl:=hpn
 clear hXn hRn hSn hWn hCn hpn
 refine (YA p (T+3+3) a n cap 3 _ hS hC (by omega) (by omega)).mono ?_
 rintro e w4 ⟨⟨vb,hvb,rfl⟩,hSn,hWn⟩
 replace hS:=hSn
 replace hRr:=ZI hRr hWn hpB
 replace hXr:=ZI hXr hWn hpB
 replace hC:=hC.went hWn (Nat.le_of_lt hpl)
 replace hpl:=Nat.lt_of_lt_of_le hpl (hWn).size
 replace hWt:=hWt.trans hWn
 clear hSn hWn
 have hvb2:vb<3:=by omega
 have xs:w4.cell? ⟨X,2,none⟩=some (.int .i64 0):=by simpa using hXr.cellAt 2 (by omega)
 have fs:=hXr.frozenAt 2
 have hXn:=(hXr.stored 2 (.int .i64 (vb:Int))).1
 have hRn:(w4.setCell ⟨X,2,none⟩ (.int .i64 (vb:Int))).ownsRow w.heap.size 122 3 (.slice (some ⟨w.heap.size,0,none⟩) 1 1) 1 [.int .i64 0,.int .i64 0,.int .i64 0]:=ownsRow_setCell_other hRr (by simp [Value.ownBlock];omega) _
 have hGn:=Zh w4 X 2 (.int .i64 (vb:Int))
 have hSn:=hS.grown hGn (fun k e=>by cases e;omega)
 have hWn:YG p w (w4.setCell ⟨X,2,none⟩ (.int .i64 (vb:Int))):=hWt.grown hGn (fun k e=>by cases e;omega)
 have hCn:=hC.below (ZX hGn (show p≤X by omega) (Nat.le_of_lt hpl))
 have hpn:p<(w4.setCell ⟨X,2,none⟩ (.int .i64 (vb:Int))).heap.size:=Nat.lt_of_lt_of_le hpl hGn.size
 simp only [List.set_cons_succ,List.set_cons_zero] at hXn
 clear hXr hRr hS hWt hC hpl hGn
 have x0:(w4.setCell ⟨X,2,none⟩ (.int .i64 (vb:Int))).cell? ⟨X,0,none⟩=some (.int .i64 8):=by simpa using hXn.cellAt 0 (by omega)
 have x1:(w4.setCell ⟨X,2,none⟩ (.int .i64 (vb:Int))).cell? ⟨X,1,none⟩=some (.int .i64 (va:Int)):=by simpa using hXn.cellAt 1 (by omega)
 have x2:(w4.setCell ⟨X,2,none⟩ (.int .i64 (vb:Int))).cell? ⟨X,2,none⟩=some (.int .i64 (vb:Int)):=by simpa using hXn.cellAt 2 (by omega)
 have kR0:(w4.setCell ⟨X,2,none⟩ (.int .i64 (vb:Int))).cell? ⟨w.heap.size,0,none⟩=some (.int .i64 0):=by simpa using hRn.cellAt 0 (by omega)
 have kR1:(w4.setCell ⟨X,2,none⟩ (.int .i64 (vb:Int))).cell? ⟨w.heap.size,1,none⟩=some (.int .i64 0):=by simpa using hRn.cellAt 1 (by omega)
 have kR2:(w4.setCell ⟨X,2,none⟩ (.int .i64 (vb:Int))).cell? ⟨w.heap.size,2,none⟩=some (.int .i64 0):=by simpa using hRn.cellAt 2 (by omega)
 have fR0:=hRn.frozenAt 0
 have fR1:=hRn.frozenAt 1
 have fR2:=hRn.frozenAt 2
 have hR9:=(((hRn.stored 0 (.int .i64 8)).1.stored 1 (.int .i64 (va:Int))).1.stored 2 (.int .i64 (vb:Int))).1
 have g9:=ZE (Zh (w4.setCell ⟨X,2,none⟩ (.int .i64 (vb:Int))) w.heap.size 0 (.int .i64 8)) (ZE (Zh _ w.heap.size 1 (.int .i64 (va:Int))) (Zh _ w.heap.size 2 (.int .i64 (vb:Int))))
 have hS9:=(hSn.grown g9 (fun k e=>by cases e;omega)).mono (show _≤T+9 by omega)
 have hW9:=hWn.grown g9 (fun k e=>by cases e;omega)
 clear hRn hXn hSn hWn hCn hpn g9
 go_wp2
 clear kR0 kR1 kR2 fR0 fR1 fR2 x0 x1 x2 xs fs
 generalize (((w4.setCell ⟨X,2,none⟩ (.int .i64 (vb:Int))).setCell ⟨w.heap.size,0,none⟩ (.int .i64 8)).setCell ⟨w.heap.size,1,none⟩ (.int .i64 (va:Int))).setCell ⟨w.heap.size,2,none⟩ (.int .i64 (vb:Int))=w9 at hR9 hS9 hW9
 have k0:w9.cell? ⟨w.heap.size,0,none⟩=some (.int .i64 8):=by simpa using hR9.cellAt 0 (by omega)
 have k1:w9.cell? ⟨w.heap.size,1,none⟩=some (.int .i64 (va:Int)):=by simpa using hR9.cellAt 1 (by omega)
 have k2:w9.cell? ⟨w.heap.size,2,none⟩=some (.int .i64 (vb:Int)):=by simpa using hR9.cellAt 2 (by omega)
 refine bodyPost_ret (by simp [results,Tryz.results57,go_sem,k0,k1,k2];try rfl) rfl ?_
 refine ⟨⟨(8,(va:Int),(vb:Int)),?_,rfl⟩,hS9,hW9⟩
 have ha:va=0∨va=1:=by omega
 have hb:vb=0∨vb=1∨vb=2:=by omega
 refine ⟨?_,?_⟩
 ·rcases ha with rfl | rfl<;>rcases hb with rfl | rfl | rfl<;>decide
 exact XA (by show (8:Int)≠7;decide)
end Go.Proofs.YtgmhhegckcionaaGreatDoor
