/-
  Joined: Src2, DrawI, TextS, Take.
-/
import Derived.Laws.RangeString
import Derived.Laws.RangeAny
import Derived.Laws.Bits
import Derived.Test.YtifoggpohlegmaaGreatDoorA12

namespace Go.Proofs.YtifoggpohlegmaaGreatDoor
set_option maxRecDepth 100000
set_option maxHeartbeats 16000000
open Go.RowKit

abbrev Went (p:Nat) (w w':World):Prop:=w.grownBy w' (some p)
theorem Stepped.went {p:Nat} {w w':World} (h:Stepped p w w'):Went p w w':=
 ⟨h.1.os,h.1.tape,h.1.output,Nat.le_of_eq h.2.1.symm,fun k _ hk=>h.2.2 k (fun e=>hk (by rw [e]))⟩
theorem Went.trans {p:Nat} {a b c:World} (h:Went p a b) (k:Went p b c):Went p a c:=
 ⟨k.os.trans h.os,k.tape.trans h.tape,k.output.trans h.output,Nat.le_trans h.size k.size,fun i hi hne=>(k.block i (Nat.lt_of_lt_of_le hi h.size) hne).trans (h.block i hi hne)⟩
theorem Went.below {p:Nat} {w w':World} (h:Went p w w') (hp:p≤w.heap.size):Below p w w':=
 (Below.refl _ _).grown h hp (fun k e=>by cases e;exact Nat.le_refl _)
theorem Went.alloc {p:Nat} {w w':World} (h:Went p w w') (o:Obj):Went p w (w'.alloc o):=h.trans (World.grownBy_alloc w' o _)
theorem Went.refl (p:Nat) (w:World):Went p w w:=World.grownBy.refl _ _
theorem Went.grown {p:Nat} {w w' w'':World} {row:Option Nat} (h:Went p w w') (g:w'.grownBy w'' row) (hr:∀ k,row=some k→w.heap.size≤k):Went p w w'':=
 ⟨g.os.trans h.os,g.tape.trans h.tape,g.output.trans h.output,Nat.le_trans h.size g.size,fun i hi hne=>(g.block i (Nat.lt_of_lt_of_le hi h.size) (fun e=>by have:=hr i e.symm;omega)).trans (h.block i hi hne)⟩
theorem Src.grown {p T:Nat} {c:Value} {w w':World} {row:Option Nat} (h:Src w p c T) (g:w.grownBy w' row) (hr:∀ k,row=some k→k≠p):Src w' p c T:=by
 obtain ⟨m,sd,hh,h1,h2⟩:=h
 have hl:p<w.heap.size:=(Array.getElem?_eq_some_iff.1 hh).1
 exact ⟨m,sd,by rw [g.block p hl (fun e=>hr p e.symm rfl)];exact hh,h1,h2⟩
theorem Src.alloc {p T:Nat} {c:Value} {w:World} (h:Src w p c T) (o:Obj):Src (w.alloc o) p c T:=h.grown (World.grownBy_alloc w o none) (fun k e=>by cases e)
theorem Src.lt {p T:Nat} {c:Value} {w:World} (h:Src w p c T):p<w.heap.size:=by
 obtain ⟨m,sd,hh,_⟩:=h
 exact (Array.getElem?_eq_some_iff.1 hh).1
theorem Src.mono {p T T':Nat} {c:Value} {w:World} (h:Src w p c T) (ht:T≤T'):Src w p c T':=by
 obtain ⟨m,sd,hh,h1,h2⟩:=h
 exact ⟨m,sd,hh,Nat.le_trans h1 ht,h2⟩
theorem Code.below {p n cap:Nat} {a:Option Addr} {w w':World} (h:Code w p a n cap) (hb:Below p w w'):Code w' p a n cap:=by
 obtain ⟨zs,⟨h1,h2,h3,h4⟩,h5,h6,h7⟩:=h
 refine ⟨zs,⟨h1,h2,h3,?_⟩,h5,h6,h7⟩
 rcases h4 with h4 | ⟨b,off,ha,hlt,hc⟩
 ·exact .inl h4
 ·rcases Nat.eq_zero_or_pos n with h0 | h0
  ·exact .inl h0
  ·have hbB:=h7 _ ha (by omega)
   exact .inr ⟨b,off,ha,by have:=hb.size;omega,fun t ht=>by rw [hb.cell (p:=⟨b,off+t,none⟩) hbB];exact hc t ht⟩
theorem Code.went {p n cap:Nat} {a:Option Addr} {w w':World} (h:Code w p a n cap) (hw:Went p w w') (hp:p≤w.heap.size):Code w' p a n cap:=h.below (hw.below hp)

theorem next_any (p T:Nat) (a:Option Addr) (n cap:Nat) (k:Int) (w:World) (hS:Src w p (.slice a n cap) T) (hC:Code w p a n cap) (hT:T≤900000) (hk:k≤1000000) :
  Calls Tryz.prog 114 #[.pointer (some ⟨p,0,none⟩),.int .i64 k] w fun e w'=>(∃ v:Nat,((v:Int)<k∨v=0)∧e=.returned (.int .i64 v))∧Src w' p (.slice a n cap) (T+3)∧Went p w w':=by
 have hp:=Nat.le_of_lt hS.lt
 by_cases h1:k≤1
 ·go_enter Tryz.func114,Tryz.ntmps114
  go_wp2
  go_ret
  exact ⟨⟨0,.inr rfl,rfl⟩,hS.mono (by omega),Went.refl _ _⟩
 by_cases h2:k≤256
 ·go_enter Tryz.func114,Tryz.ntmps114
  go_wp2_with fail
  refine (byte_any p T a n cap _ hS hC (by omega)).mono ?_
  rintro e w1 ⟨⟨v,hv,rfl⟩,hS1,hst⟩
  have hW:=hst.went
  have hS3:Src w1 p (.slice a n cap) (T+3):=hS1.mono (by omega)
  clear hst hS1 hS hC
  go_wp2
  go_ret
  exact ⟨⟨((v:Int) % k).toNat,.inl (by have:=Int.emod_lt_of_pos (v:Int) (show 0<k by omega);have:=Int.emod_nonneg (v:Int) (show k≠0 by omega);omega),by rw [Int.toNat_of_nonneg (Int.emod_nonneg _ (by omega))];rfl⟩,hS3,hW⟩
 ·go_enter Tryz.func114,Tryz.ntmps114
  go_wp2_with fail
  refine (byte_any p T a n cap _ hS hC (by omega)).mono ?_
  rintro e w1 ⟨⟨v1,hv1,rfl⟩,hS1,hst1⟩
  have hC1:=hC.went hst1.went hp
  have hp1:=Nat.le_of_lt hS1.lt
  go_wp2_with fail
  refine (byte_any p (T+1) a n cap _ hS1 hC1 (by omega)).mono ?_
  rintro e w2 ⟨⟨v2,hv2,rfl⟩,hS2,hst2⟩
  have hC2:=hC1.went hst2.went hp1
  go_wp2_with fail
  refine (byte_any p (T+1+1) a n cap _ hS2 hC2 (by omega)).mono ?_
  rintro e w3 ⟨⟨v3,hv3,rfl⟩,hS3,hst3⟩
  have hW:=(hst1.went.trans hst2.went).trans hst3.went
  have hS3':Src w3 p (.slice a n cap) (T+3):=hS3.mono (by omega)
  clear hst1 hst2 hst3 hS1 hS2 hS3 hS hC hC1 hC2
  go_wp2
  go_ret
  exact ⟨⟨(((v1:Int)*65536+(v2:Int)*256+(v3:Int)) % k).toNat,.inl (by have:=Int.emod_lt_of_pos ((v1:Int)*65536+(v2:Int)*256+(v3:Int)) (show 0<k by omega);have:=Int.emod_nonneg ((v1:Int)*65536+(v2:Int)*256+(v3:Int)) (show k≠0 by omega);omega),by rw [Int.toNat_of_nonneg (Int.emod_nonneg _ (by omega))];rfl⟩,hS3',hW⟩

theorem l00Source_any (a:Option Addr) (n cap:Nat) (w:World) (hn:n≤1048576) :
  Calls Tryz.prog 51 #[.slice a n cap] w fun e w'=>e=.returned (.pointer (some ⟨w.heap.size,0,none⟩))∧Src w' w.heap.size (.slice a n cap) 0∧Below w.heap.size w w':=by
 go_enter Tryz.func51,Tryz.ntmps51
 go_wp2
 go_ret
 refine ⟨rfl,⟨0,((n:Int) % 1000).toNat,?_,by omega,by omega⟩,(Below.refl _ _).alloc (Nat.le_refl _) _⟩
 rw [Int.toNat_of_nonneg (by omega)]
 exact heap_alloc_new w _
theorem code_of {a:Option Addr} {n cap:Nat} {zs:List Int} {w:World} (h:IsRow .u8 w a n cap zs) (hn:n≤1048576):Code w w.heap.size a n cap:=by
 refine ⟨zs.take n,Ints.of_isRow h,?_,hn,?_⟩
 ·intro z hz
  have hz':=List.mem_of_mem_take hz
  rcases h with ⟨_,_,_,rfl⟩ | ⟨x,_,_,_,_,_,hw⟩
  ·simp at hz'
  ·have:=hw z hz'
   simp [Lit.wf,IntKind.min,IntKind.max,IntKind.signed,IntKind.bits] at this
   omega
 ·intro x hx hn0
  obtain ⟨_,_,_,h4⟩:=Ints.of_isRow h
  rcases h4 with h4 | ⟨b,off,ha,hlt,_⟩
  ·exact absurd h4 hn0
  ·rw [ha] at hx
   cases hx
   exact hlt


theorem owns_wn {p base e size n:Nat} {v:Value} {xs:List Value} {w w':World} (h:w.ownsRow base e size v n xs) (hw:Went p w w') (hp:p<base):w'.ownsRow base e size v n xs:=
 h.kept hw (by
  rcases hb:v.ownBlock with _ | x
  ·exact .inl rfl
  ·refine .inr fun e=>?_
   cases e
   have:=(h.lt _ hb).1
   omega)
theorem box3_ (w:World) (x y z:Value) (t B:Nat) (hB:B≤w.heap.size):(w.alloc (.cells #[x,y,z] t)).ownsRow B t 3 (.slice (some ⟨w.heap.size,0,none⟩) 1 1) 1 [x,y,z]:=World.ownsRow_lit w #[x,y,z] 1 hB (by unfold maxLen;omega) rfl
theorem grown_below {w w':World} {X p:Nat} (h:w.grownBy w' (some X)) (hX:p≤X) (hp:p≤w.heap.size):Below p w w':=
 ⟨h.os,h.tape,h.output,h.size,fun k hk=>h.block k (by omega) (fun e=>by cases e;omega)⟩

def DrawnAt (x:I3) (at0 nn:Nat):Prop:=x.1=7→(at0:Int)+1≤x.2.2∧x.2.2≤(nn:Int)
theorem drawn_leads {va:Int} {at0 nn vt:Nat} (h1:at0+1≤vt) (h2:vt≤nn):DrawnAt (7,va,(vt:Int)) at0 nn:=fun _=>⟨by simp only;omega,by simp only;omega⟩
theorem drawn_other {x:I3} {at0 nn:Nat} (h:x.1≠7):DrawnAt x at0 nn:=fun e=>absurd e h
theorem instr_any (p T:Nat) (a:Option Addr) (n cap at0 nn:Nat) (w:World) (hS:Src w p (.slice a n cap) T) (hC:Code w p a n cap) (hT:T≤800000) (hat:at0<nn) (hnn:nn≤3) :
  Calls Tryz.prog 115 #[.pointer (some ⟨p,0,none⟩),.int .i64 at0,.int .i64 nn] w fun e w'=>(∃ x:I3,(okI x=true∧DrawnAt x at0 nn)∧e=.returned x.val)∧Src w' p (.slice a n cap) (T+9)∧Went p w w':=by
 have hpl:=hS.lt
 have hpB:p<w.heap.size:=hS.lt
 have hRr:=box3_ w (.int .i64 0) (.int .i64 0) (.int .i64 0) 159 w.heap.size (Nat.le_refl _)
 replace hS:=hS.alloc (.cells #[.int .i64 0,.int .i64 0,.int .i64 0] 159)
 replace hC:=hC.below ((Below.refl p w).alloc (Nat.le_of_lt hpl) (.cells #[.int .i64 0,.int .i64 0,.int .i64 0] 159))
 have hWt:=(Went.refl p w).alloc (.cells #[.int .i64 0,.int .i64 0,.int .i64 0] 159)
 have hsA:w.heap.size<(w.alloc (.cells #[.int .i64 0,.int .i64 0,.int .i64 0] 159)).heap.size:=by simp
 go_enter Tryz.func115,Tryz.ntmps115
 go_wp2_with fail
 generalize w.alloc (.cells #[.int .i64 0,.int .i64 0,.int .i64 0] 159)=wA at hRr hS hC hWt hsA
 replace hpl:p<wA.heap.size:=by omega
 refine (next_any p T a n cap 8 _ hS hC (by omega) (by omega)).mono ?_
 rintro e w1 ⟨⟨v,hv,rfl⟩,hSn,hWn⟩
 replace hS:=hSn
 replace hRr:=owns_wn hRr hWn hpB
 replace hC:=hC.went hWn (Nat.le_of_lt hpl)
 have hbX:w.heap.size<w1.heap.size:=Nat.lt_of_lt_of_le hsA hWn.size
 replace hpl:=Nat.lt_of_lt_of_le hpl hWn.size
 replace hWt:=hWt.trans hWn
 have hbs:w.heap.size≤w1.heap.size:=by omega
 clear hSn hWn hsA
 have hcases:(1+(v:Int))=1∨(1+(v:Int))=2∨(1+(v:Int))=3∨(1+(v:Int))=4∨(1+(v:Int))=5∨(1+(v:Int))=6∨(1+(v:Int))=7∨(1+(v:Int))=8:=by omega
 rcases hcases with hv1 | hv1 | hv1 | hv1 | hv1 | hv1 | hv1 | hv1
 ·have hXb:=box3_ (w1) (.int .i64 1) (.int .i64 0) (.int .i64 0) 159 w.heap.size hbs
  have hXr:=hXb
  have hGx:w1.grownBy (w1.alloc (.cells #[.int .i64 1,.int .i64 0,.int .i64 0] 159)) none:=World.grownBy_alloc w1 _ none
  replace hRr:=hRr.alloc (.cells #[.int .i64 1,.int .i64 0,.int .i64 0] 159)
  replace hS:=hS.alloc (.cells #[.int .i64 1,.int .i64 0,.int .i64 0] 159)
  replace hC:=hC.below ((Below.refl p w1).alloc (Nat.le_of_lt hpl) (.cells #[.int .i64 1,.int .i64 0,.int .i64 0] 159))
  replace hWt:=hWt.alloc (.cells #[.int .i64 1,.int .i64 0,.int .i64 0] 159)
  replace hpl:p<(w1.alloc (.cells #[.int .i64 1,.int .i64 0,.int .i64 0] 159)).heap.size:=by simp;omega
  have xk:(w1.alloc (.cells #[.int .i64 1,.int .i64 0,.int .i64 0] 159)).cell? ⟨w1.heap.size,0,none⟩=some (.int .i64 1):=by simp [go_sem]
  clear hXb hGx
  go_wp2_with fail
  clear xk
  generalize w1.alloc (.cells #[.int .i64 1,.int .i64 0,.int .i64 0] 159)=wx at hXr hRr hS hC hWt hpl
  generalize w1.heap.size=X at hXr hbs hbX
  refine (next_any p (T+3) a n cap 2 _ hS hC (by omega) (by omega)).mono ?_
  rintro e w2 ⟨⟨va,hva,rfl⟩,hSn,hWn⟩
  replace hS:=hSn
  replace hRr:=owns_wn hRr hWn hpB
  replace hXr:=owns_wn hXr hWn hpB
  replace hC:=hC.went hWn (Nat.le_of_lt hpl)
  replace hpl:=Nat.lt_of_lt_of_le hpl (hWn).size
  replace hWt:=hWt.trans hWn
  clear hSn hWn
  have hva2:va<2:=by omega
  have xs:w2.cell? ⟨X,1,none⟩=some (.int .i64 0):=by simpa using hXr.cellAt 1 (by omega)
  have fs:=hXr.frozenAt 1
  have hXn:=(hXr.stored 1 (.int .i64 (va:Int))).1
  have hRn:(w2.setCell ⟨X,1,none⟩ (.int .i64 (va:Int))).ownsRow w.heap.size 159 3 (.slice (some ⟨w.heap.size,0,none⟩) 1 1) 1 [.int .i64 0,.int .i64 0,.int .i64 0]:=ownsRow_setCell_other hRr (by simp [Value.ownBlock];omega) _
  have hGn:=grownBy_set w2 X 1 (.int .i64 (va:Int))
  have hSn:=hS.grown hGn (fun k e=>by cases e;omega)
  have hWn:Went p w (w2.setCell ⟨X,1,none⟩ (.int .i64 (va:Int))):=hWt.grown hGn (fun k e=>by cases e;omega)
  have hCn:=hC.below (grown_below hGn (show p≤X by omega) (Nat.le_of_lt hpl))
  have hpn:p<(w2.setCell ⟨X,1,none⟩ (.int .i64 (va:Int))).heap.size:=Nat.lt_of_lt_of_le hpl hGn.size
  simp only [List.set_cons_succ,List.set_cons_zero] at hXn
  clear hXr hRr hS hWt hC hpl hGn
  go_wp2_with fail
  clear xs fs
  generalize w2.setCell ⟨X,1,none⟩ (.int .i64 (va:Int))=w3 at hXn hRn hSn hWn hCn hpn
  have hXr:=hXn
  have hRr:=hRn
  have hS:=hSn
  have hWt:=hWn
  have hC:=hCn
  have hpl:=hpn
  clear hXn hRn hSn hWn hCn hpn
  refine (next_any p (T+3+3) a n cap 2 _ hS hC (by omega) (by omega)).mono ?_
  rintro e w4 ⟨⟨vb,hvb,rfl⟩,hSn,hWn⟩
  replace hS:=hSn
  replace hRr:=owns_wn hRr hWn hpB
  replace hXr:=owns_wn hXr hWn hpB
  replace hC:=hC.went hWn (Nat.le_of_lt hpl)
  replace hpl:=Nat.lt_of_lt_of_le hpl (hWn).size
  replace hWt:=hWt.trans hWn
  clear hSn hWn
  have hvb2:vb<2:=by omega
  have xs:w4.cell? ⟨X,2,none⟩=some (.int .i64 0):=by simpa using hXr.cellAt 2 (by omega)
  have fs:=hXr.frozenAt 2
  have hXn:=(hXr.stored 2 (.int .i64 (vb:Int))).1
  have hRn:(w4.setCell ⟨X,2,none⟩ (.int .i64 (vb:Int))).ownsRow w.heap.size 159 3 (.slice (some ⟨w.heap.size,0,none⟩) 1 1) 1 [.int .i64 0,.int .i64 0,.int .i64 0]:=ownsRow_setCell_other hRr (by simp [Value.ownBlock];omega) _
  have hGn:=grownBy_set w4 X 2 (.int .i64 (vb:Int))
  have hSn:=hS.grown hGn (fun k e=>by cases e;omega)
  have hWn:Went p w (w4.setCell ⟨X,2,none⟩ (.int .i64 (vb:Int))):=hWt.grown hGn (fun k e=>by cases e;omega)
  have hCn:=hC.below (grown_below hGn (show p≤X by omega) (Nat.le_of_lt hpl))
  have hpn:p<(w4.setCell ⟨X,2,none⟩ (.int .i64 (vb:Int))).heap.size:=Nat.lt_of_lt_of_le hpl hGn.size
  simp only [List.set_cons_succ,List.set_cons_zero] at hXn
  clear hXr hRr hS hWt hC hpl hGn
  have x0:(w4.setCell ⟨X,2,none⟩ (.int .i64 (vb:Int))).cell? ⟨X,0,none⟩=some (.int .i64 1):=by simpa using hXn.cellAt 0 (by omega)
  have x1:(w4.setCell ⟨X,2,none⟩ (.int .i64 (vb:Int))).cell? ⟨X,1,none⟩=some (.int .i64 (va:Int)):=by simpa using hXn.cellAt 1 (by omega)
  have x2:(w4.setCell ⟨X,2,none⟩ (.int .i64 (vb:Int))).cell? ⟨X,2,none⟩=some (.int .i64 (vb:Int)):=by simpa using hXn.cellAt 2 (by omega)
  have kR0:(w4.setCell ⟨X,2,none⟩ (.int .i64 (vb:Int))).cell? ⟨w.heap.size,0,none⟩=some (.int .i64 0):=by simpa using hRn.cellAt 0 (by omega)
  have kR1:(w4.setCell ⟨X,2,none⟩ (.int .i64 (vb:Int))).cell? ⟨w.heap.size,1,none⟩=some (.int .i64 0):=by simpa using hRn.cellAt 1 (by omega)
  have kR2:(w4.setCell ⟨X,2,none⟩ (.int .i64 (vb:Int))).cell? ⟨w.heap.size,2,none⟩=some (.int .i64 0):=by simpa using hRn.cellAt 2 (by omega)
  have fR0:=hRn.frozenAt 0
  have fR1:=hRn.frozenAt 1
  have fR2:=hRn.frozenAt 2
  have hR9:=(((hRn.stored 0 (.int .i64 1)).1.stored 1 (.int .i64 (va:Int))).1.stored 2 (.int .i64 (vb:Int))).1
  have g9:=grownBy_tr (grownBy_set (w4.setCell ⟨X,2,none⟩ (.int .i64 (vb:Int))) w.heap.size 0 (.int .i64 1)) (grownBy_tr (grownBy_set _ w.heap.size 1 (.int .i64 (va:Int))) (grownBy_set _ w.heap.size 2 (.int .i64 (vb:Int))))
  have hS9:=(hSn.grown g9 (fun k e=>by cases e;omega)).mono (show _≤T+9 by omega)
  have hW9:=hWn.grown g9 (fun k e=>by cases e;omega)
  clear hRn hXn hSn hWn hCn hpn g9
  go_wp2
  clear kR0 kR1 kR2 fR0 fR1 fR2 x0 x1 x2 xs fs
  generalize (((w4.setCell ⟨X,2,none⟩ (.int .i64 (vb:Int))).setCell ⟨w.heap.size,0,none⟩ (.int .i64 1)).setCell ⟨w.heap.size,1,none⟩ (.int .i64 (va:Int))).setCell ⟨w.heap.size,2,none⟩ (.int .i64 (vb:Int))=w9 at hR9 hS9 hW9
  have k0:w9.cell? ⟨w.heap.size,0,none⟩=some (.int .i64 1):=by simpa using hR9.cellAt 0 (by omega)
  have k1:w9.cell? ⟨w.heap.size,1,none⟩=some (.int .i64 (va:Int)):=by simpa using hR9.cellAt 1 (by omega)
  have k2:w9.cell? ⟨w.heap.size,2,none⟩=some (.int .i64 (vb:Int)):=by simpa using hR9.cellAt 2 (by omega)
  refine bodyPost_ret (by simp [results,Tryz.results115,go_sem,k0,k1,k2];try rfl) rfl ?_
  refine ⟨⟨(1,(va:Int),(vb:Int)),?_,rfl⟩,hS9,hW9⟩
  have ha:va=0∨va=1:=by omega
  have hb:vb=0∨vb=1:=by omega
  refine ⟨?_,?_⟩
  ·rcases ha with rfl | rfl<;>rcases hb with rfl | rfl<;>decide
  ·exact drawn_other (by show (1:Int)≠7;decide)
 ·have hXb:=box3_ (w1) (.int .i64 2) (.int .i64 0) (.int .i64 0) 159 w.heap.size hbs
  have hXr:=hXb
  have hGx:w1.grownBy (w1.alloc (.cells #[.int .i64 2,.int .i64 0,.int .i64 0] 159)) none:=World.grownBy_alloc w1 _ none
  replace hRr:=hRr.alloc (.cells #[.int .i64 2,.int .i64 0,.int .i64 0] 159)
  replace hS:=hS.alloc (.cells #[.int .i64 2,.int .i64 0,.int .i64 0] 159)
  replace hC:=hC.below ((Below.refl p w1).alloc (Nat.le_of_lt hpl) (.cells #[.int .i64 2,.int .i64 0,.int .i64 0] 159))
  replace hWt:=hWt.alloc (.cells #[.int .i64 2,.int .i64 0,.int .i64 0] 159)
  replace hpl:p<(w1.alloc (.cells #[.int .i64 2,.int .i64 0,.int .i64 0] 159)).heap.size:=by simp;omega
  have xk:(w1.alloc (.cells #[.int .i64 2,.int .i64 0,.int .i64 0] 159)).cell? ⟨w1.heap.size,0,none⟩=some (.int .i64 2):=by simp [go_sem]
  clear hXb hGx
  go_wp2_with fail
  clear xk
  generalize w1.alloc (.cells #[.int .i64 2,.int .i64 0,.int .i64 0] 159)=wx at hXr hRr hS hC hWt hpl
  generalize w1.heap.size=X at hXr hbs hbX
  refine (next_any p (T+3) a n cap 2 _ hS hC (by omega) (by omega)).mono ?_
  rintro e w2 ⟨⟨va,hva,rfl⟩,hSn,hWn⟩
  replace hS:=hSn
  replace hRr:=owns_wn hRr hWn hpB
  replace hXr:=owns_wn hXr hWn hpB
  replace hC:=hC.went hWn (Nat.le_of_lt hpl)
  replace hpl:=Nat.lt_of_lt_of_le hpl (hWn).size
  replace hWt:=hWt.trans hWn
  clear hSn hWn
  have hva2:va<2:=by omega
  have xs:w2.cell? ⟨X,1,none⟩=some (.int .i64 0):=by simpa using hXr.cellAt 1 (by omega)
  have fs:=hXr.frozenAt 1
  have hXn:=(hXr.stored 1 (.int .i64 (va:Int))).1
  have hRn:(w2.setCell ⟨X,1,none⟩ (.int .i64 (va:Int))).ownsRow w.heap.size 159 3 (.slice (some ⟨w.heap.size,0,none⟩) 1 1) 1 [.int .i64 0,.int .i64 0,.int .i64 0]:=ownsRow_setCell_other hRr (by simp [Value.ownBlock];omega) _
  have hGn:=grownBy_set w2 X 1 (.int .i64 (va:Int))
  have hSn:=hS.grown hGn (fun k e=>by cases e;omega)
  have hWn:Went p w (w2.setCell ⟨X,1,none⟩ (.int .i64 (va:Int))):=hWt.grown hGn (fun k e=>by cases e;omega)
  have hCn:=hC.below (grown_below hGn (show p≤X by omega) (Nat.le_of_lt hpl))
  have hpn:p<(w2.setCell ⟨X,1,none⟩ (.int .i64 (va:Int))).heap.size:=Nat.lt_of_lt_of_le hpl hGn.size
  simp only [List.set_cons_succ,List.set_cons_zero] at hXn
  clear hXr hRr hS hWt hC hpl hGn
  go_wp2_with fail
  clear xs fs
  generalize w2.setCell ⟨X,1,none⟩ (.int .i64 (va:Int))=w3 at hXn hRn hSn hWn hCn hpn
  have hXr:=hXn
  have hRr:=hRn
  have hS:=hSn
  have hWt:=hWn
  have hC:=hCn
  have hpl:=hpn
  clear hXn hRn hSn hWn hCn hpn
  refine (next_any p (T+3+3) a n cap 2 _ hS hC (by omega) (by omega)).mono ?_
  rintro e w4 ⟨⟨vb,hvb,rfl⟩,hSn,hWn⟩
  replace hS:=hSn
  replace hRr:=owns_wn hRr hWn hpB
  replace hXr:=owns_wn hXr hWn hpB
  replace hC:=hC.went hWn (Nat.le_of_lt hpl)
  replace hpl:=Nat.lt_of_lt_of_le hpl (hWn).size
  replace hWt:=hWt.trans hWn
  clear hSn hWn
  have hvb2:vb<2:=by omega
  have xs:w4.cell? ⟨X,2,none⟩=some (.int .i64 0):=by simpa using hXr.cellAt 2 (by omega)
  have fs:=hXr.frozenAt 2
  have hXn:=(hXr.stored 2 (.int .i64 (vb:Int))).1
  have hRn:(w4.setCell ⟨X,2,none⟩ (.int .i64 (vb:Int))).ownsRow w.heap.size 159 3 (.slice (some ⟨w.heap.size,0,none⟩) 1 1) 1 [.int .i64 0,.int .i64 0,.int .i64 0]:=ownsRow_setCell_other hRr (by simp [Value.ownBlock];omega) _
  have hGn:=grownBy_set w4 X 2 (.int .i64 (vb:Int))
  have hSn:=hS.grown hGn (fun k e=>by cases e;omega)
  have hWn:Went p w (w4.setCell ⟨X,2,none⟩ (.int .i64 (vb:Int))):=hWt.grown hGn (fun k e=>by cases e;omega)
  have hCn:=hC.below (grown_below hGn (show p≤X by omega) (Nat.le_of_lt hpl))
  have hpn:p<(w4.setCell ⟨X,2,none⟩ (.int .i64 (vb:Int))).heap.size:=Nat.lt_of_lt_of_le hpl hGn.size
  simp only [List.set_cons_succ,List.set_cons_zero] at hXn
  clear hXr hRr hS hWt hC hpl hGn
  have x0:(w4.setCell ⟨X,2,none⟩ (.int .i64 (vb:Int))).cell? ⟨X,0,none⟩=some (.int .i64 2):=by simpa using hXn.cellAt 0 (by omega)
  have x1:(w4.setCell ⟨X,2,none⟩ (.int .i64 (vb:Int))).cell? ⟨X,1,none⟩=some (.int .i64 (va:Int)):=by simpa using hXn.cellAt 1 (by omega)
  have x2:(w4.setCell ⟨X,2,none⟩ (.int .i64 (vb:Int))).cell? ⟨X,2,none⟩=some (.int .i64 (vb:Int)):=by simpa using hXn.cellAt 2 (by omega)
  have kR0:(w4.setCell ⟨X,2,none⟩ (.int .i64 (vb:Int))).cell? ⟨w.heap.size,0,none⟩=some (.int .i64 0):=by simpa using hRn.cellAt 0 (by omega)
  have kR1:(w4.setCell ⟨X,2,none⟩ (.int .i64 (vb:Int))).cell? ⟨w.heap.size,1,none⟩=some (.int .i64 0):=by simpa using hRn.cellAt 1 (by omega)
  have kR2:(w4.setCell ⟨X,2,none⟩ (.int .i64 (vb:Int))).cell? ⟨w.heap.size,2,none⟩=some (.int .i64 0):=by simpa using hRn.cellAt 2 (by omega)
  have fR0:=hRn.frozenAt 0
  have fR1:=hRn.frozenAt 1
  have fR2:=hRn.frozenAt 2
  have hR9:=(((hRn.stored 0 (.int .i64 2)).1.stored 1 (.int .i64 (va:Int))).1.stored 2 (.int .i64 (vb:Int))).1
  have g9:=grownBy_tr (grownBy_set (w4.setCell ⟨X,2,none⟩ (.int .i64 (vb:Int))) w.heap.size 0 (.int .i64 2)) (grownBy_tr (grownBy_set _ w.heap.size 1 (.int .i64 (va:Int))) (grownBy_set _ w.heap.size 2 (.int .i64 (vb:Int))))
  have hS9:=(hSn.grown g9 (fun k e=>by cases e;omega)).mono (show _≤T+9 by omega)
  have hW9:=hWn.grown g9 (fun k e=>by cases e;omega)
  clear hRn hXn hSn hWn hCn hpn g9
  go_wp2
  clear kR0 kR1 kR2 fR0 fR1 fR2 x0 x1 x2 xs fs
  generalize (((w4.setCell ⟨X,2,none⟩ (.int .i64 (vb:Int))).setCell ⟨w.heap.size,0,none⟩ (.int .i64 2)).setCell ⟨w.heap.size,1,none⟩ (.int .i64 (va:Int))).setCell ⟨w.heap.size,2,none⟩ (.int .i64 (vb:Int))=w9 at hR9 hS9 hW9
  have k0:w9.cell? ⟨w.heap.size,0,none⟩=some (.int .i64 2):=by simpa using hR9.cellAt 0 (by omega)
  have k1:w9.cell? ⟨w.heap.size,1,none⟩=some (.int .i64 (va:Int)):=by simpa using hR9.cellAt 1 (by omega)
  have k2:w9.cell? ⟨w.heap.size,2,none⟩=some (.int .i64 (vb:Int)):=by simpa using hR9.cellAt 2 (by omega)
  refine bodyPost_ret (by simp [results,Tryz.results115,go_sem,k0,k1,k2];try rfl) rfl ?_
  refine ⟨⟨(2,(va:Int),(vb:Int)),?_,rfl⟩,hS9,hW9⟩
  have ha:va=0∨va=1:=by omega
  have hb:vb=0∨vb=1:=by omega
  refine ⟨?_,?_⟩
  ·rcases ha with rfl | rfl<;>rcases hb with rfl | rfl<;>decide
  ·exact drawn_other (by show (2:Int)≠7;decide)
 ·have hXb:=box3_ (w1) (.int .i64 3) (.int .i64 0) (.int .i64 0) 159 w.heap.size hbs
  have hXr:=hXb
  have hGx:w1.grownBy (w1.alloc (.cells #[.int .i64 3,.int .i64 0,.int .i64 0] 159)) none:=World.grownBy_alloc w1 _ none
  replace hRr:=hRr.alloc (.cells #[.int .i64 3,.int .i64 0,.int .i64 0] 159)
  replace hS:=hS.alloc (.cells #[.int .i64 3,.int .i64 0,.int .i64 0] 159)
  replace hC:=hC.below ((Below.refl p w1).alloc (Nat.le_of_lt hpl) (.cells #[.int .i64 3,.int .i64 0,.int .i64 0] 159))
  replace hWt:=hWt.alloc (.cells #[.int .i64 3,.int .i64 0,.int .i64 0] 159)
  replace hpl:p<(w1.alloc (.cells #[.int .i64 3,.int .i64 0,.int .i64 0] 159)).heap.size:=by simp;omega
  have xk:(w1.alloc (.cells #[.int .i64 3,.int .i64 0,.int .i64 0] 159)).cell? ⟨w1.heap.size,0,none⟩=some (.int .i64 3):=by simp [go_sem]
  clear hXb hGx
  go_wp2_with fail
  clear xk
  generalize w1.alloc (.cells #[.int .i64 3,.int .i64 0,.int .i64 0] 159)=wx at hXr hRr hS hC hWt hpl
  generalize w1.heap.size=X at hXr hbs hbX
  refine (next_any p (T+3) a n cap 2 _ hS hC (by omega) (by omega)).mono ?_
  rintro e w2 ⟨⟨va,hva,rfl⟩,hSn,hWn⟩
  replace hS:=hSn
  replace hRr:=owns_wn hRr hWn hpB
  replace hXr:=owns_wn hXr hWn hpB
  replace hC:=hC.went hWn (Nat.le_of_lt hpl)
  replace hpl:=Nat.lt_of_lt_of_le hpl (hWn).size
  replace hWt:=hWt.trans hWn
  clear hSn hWn
  have hva2:va<2:=by omega
  have xs:w2.cell? ⟨X,1,none⟩=some (.int .i64 0):=by simpa using hXr.cellAt 1 (by omega)
  have fs:=hXr.frozenAt 1
  have hXn:=(hXr.stored 1 (.int .i64 (va:Int))).1
  have hRn:(w2.setCell ⟨X,1,none⟩ (.int .i64 (va:Int))).ownsRow w.heap.size 159 3 (.slice (some ⟨w.heap.size,0,none⟩) 1 1) 1 [.int .i64 0,.int .i64 0,.int .i64 0]:=ownsRow_setCell_other hRr (by simp [Value.ownBlock];omega) _
  have hGn:=grownBy_set w2 X 1 (.int .i64 (va:Int))
  have hSn:=hS.grown hGn (fun k e=>by cases e;omega)
  have hWn:Went p w (w2.setCell ⟨X,1,none⟩ (.int .i64 (va:Int))):=hWt.grown hGn (fun k e=>by cases e;omega)
  have hCn:=hC.below (grown_below hGn (show p≤X by omega) (Nat.le_of_lt hpl))
  have hpn:p<(w2.setCell ⟨X,1,none⟩ (.int .i64 (va:Int))).heap.size:=Nat.lt_of_lt_of_le hpl hGn.size
  simp only [List.set_cons_succ,List.set_cons_zero] at hXn
  clear hXr hRr hS hWt hC hpl hGn
  go_wp2_with fail
  clear xs fs
  generalize w2.setCell ⟨X,1,none⟩ (.int .i64 (va:Int))=w3 at hXn hRn hSn hWn hCn hpn
  have hXr:=hXn
  have hRr:=hRn
  have hS:=hSn
  have hWt:=hWn
  have hC:=hCn
  have hpl:=hpn
  clear hXn hRn hSn hWn hCn hpn
  refine (next_any p (T+3+3) a n cap 3 _ hS hC (by omega) (by omega)).mono ?_
  rintro e w4 ⟨⟨vb,hvb,rfl⟩,hSn,hWn⟩
  replace hS:=hSn
  replace hRr:=owns_wn hRr hWn hpB
  replace hXr:=owns_wn hXr hWn hpB
  replace hC:=hC.went hWn (Nat.le_of_lt hpl)
  replace hpl:=Nat.lt_of_lt_of_le hpl (hWn).size
  replace hWt:=hWt.trans hWn
  clear hSn hWn
  have hvb2:vb<3:=by omega
  have xs:w4.cell? ⟨X,2,none⟩=some (.int .i64 0):=by simpa using hXr.cellAt 2 (by omega)
  have fs:=hXr.frozenAt 2
  have hXn:=(hXr.stored 2 (.int .i64 (vb:Int))).1
  have hRn:(w4.setCell ⟨X,2,none⟩ (.int .i64 (vb:Int))).ownsRow w.heap.size 159 3 (.slice (some ⟨w.heap.size,0,none⟩) 1 1) 1 [.int .i64 0,.int .i64 0,.int .i64 0]:=ownsRow_setCell_other hRr (by simp [Value.ownBlock];omega) _
  have hGn:=grownBy_set w4 X 2 (.int .i64 (vb:Int))
  have hSn:=hS.grown hGn (fun k e=>by cases e;omega)
  have hWn:Went p w (w4.setCell ⟨X,2,none⟩ (.int .i64 (vb:Int))):=hWt.grown hGn (fun k e=>by cases e;omega)
  have hCn:=hC.below (grown_below hGn (show p≤X by omega) (Nat.le_of_lt hpl))
  have hpn:p<(w4.setCell ⟨X,2,none⟩ (.int .i64 (vb:Int))).heap.size:=Nat.lt_of_lt_of_le hpl hGn.size
  simp only [List.set_cons_succ,List.set_cons_zero] at hXn
  clear hXr hRr hS hWt hC hpl hGn
  have x0:(w4.setCell ⟨X,2,none⟩ (.int .i64 (vb:Int))).cell? ⟨X,0,none⟩=some (.int .i64 3):=by simpa using hXn.cellAt 0 (by omega)
  have x1:(w4.setCell ⟨X,2,none⟩ (.int .i64 (vb:Int))).cell? ⟨X,1,none⟩=some (.int .i64 (va:Int)):=by simpa using hXn.cellAt 1 (by omega)
  have x2:(w4.setCell ⟨X,2,none⟩ (.int .i64 (vb:Int))).cell? ⟨X,2,none⟩=some (.int .i64 (vb:Int)):=by simpa using hXn.cellAt 2 (by omega)
  have kR0:(w4.setCell ⟨X,2,none⟩ (.int .i64 (vb:Int))).cell? ⟨w.heap.size,0,none⟩=some (.int .i64 0):=by simpa using hRn.cellAt 0 (by omega)
  have kR1:(w4.setCell ⟨X,2,none⟩ (.int .i64 (vb:Int))).cell? ⟨w.heap.size,1,none⟩=some (.int .i64 0):=by simpa using hRn.cellAt 1 (by omega)
  have kR2:(w4.setCell ⟨X,2,none⟩ (.int .i64 (vb:Int))).cell? ⟨w.heap.size,2,none⟩=some (.int .i64 0):=by simpa using hRn.cellAt 2 (by omega)
  have fR0:=hRn.frozenAt 0
  have fR1:=hRn.frozenAt 1
  have fR2:=hRn.frozenAt 2
  have hR9:=(((hRn.stored 0 (.int .i64 3)).1.stored 1 (.int .i64 (va:Int))).1.stored 2 (.int .i64 (vb:Int))).1
  have g9:=grownBy_tr (grownBy_set (w4.setCell ⟨X,2,none⟩ (.int .i64 (vb:Int))) w.heap.size 0 (.int .i64 3)) (grownBy_tr (grownBy_set _ w.heap.size 1 (.int .i64 (va:Int))) (grownBy_set _ w.heap.size 2 (.int .i64 (vb:Int))))
  have hS9:=(hSn.grown g9 (fun k e=>by cases e;omega)).mono (show _≤T+9 by omega)
  have hW9:=hWn.grown g9 (fun k e=>by cases e;omega)
  clear hRn hXn hSn hWn hCn hpn g9
  go_wp2
  clear kR0 kR1 kR2 fR0 fR1 fR2 x0 x1 x2 xs fs
  generalize (((w4.setCell ⟨X,2,none⟩ (.int .i64 (vb:Int))).setCell ⟨w.heap.size,0,none⟩ (.int .i64 3)).setCell ⟨w.heap.size,1,none⟩ (.int .i64 (va:Int))).setCell ⟨w.heap.size,2,none⟩ (.int .i64 (vb:Int))=w9 at hR9 hS9 hW9
  have k0:w9.cell? ⟨w.heap.size,0,none⟩=some (.int .i64 3):=by simpa using hR9.cellAt 0 (by omega)
  have k1:w9.cell? ⟨w.heap.size,1,none⟩=some (.int .i64 (va:Int)):=by simpa using hR9.cellAt 1 (by omega)
  have k2:w9.cell? ⟨w.heap.size,2,none⟩=some (.int .i64 (vb:Int)):=by simpa using hR9.cellAt 2 (by omega)
  refine bodyPost_ret (by simp [results,Tryz.results115,go_sem,k0,k1,k2];try rfl) rfl ?_
  refine ⟨⟨(3,(va:Int),(vb:Int)),?_,rfl⟩,hS9,hW9⟩
  have ha:va=0∨va=1:=by omega
  have hb:vb=0∨vb=1∨vb=2:=by omega
  refine ⟨?_,?_⟩
  ·rcases ha with rfl | rfl<;>rcases hb with rfl | rfl | rfl<;>decide
  ·exact drawn_other (by show (3:Int)≠7;decide)
 ·have hXb:=box3_ (w1) (.int .i64 4) (.int .i64 0) (.int .i64 0) 159 w.heap.size hbs
  have hXr:=hXb
  have hGx:w1.grownBy (w1.alloc (.cells #[.int .i64 4,.int .i64 0,.int .i64 0] 159)) none:=World.grownBy_alloc w1 _ none
  replace hRr:=hRr.alloc (.cells #[.int .i64 4,.int .i64 0,.int .i64 0] 159)
  replace hS:=hS.alloc (.cells #[.int .i64 4,.int .i64 0,.int .i64 0] 159)
  replace hC:=hC.below ((Below.refl p w1).alloc (Nat.le_of_lt hpl) (.cells #[.int .i64 4,.int .i64 0,.int .i64 0] 159))
  replace hWt:=hWt.alloc (.cells #[.int .i64 4,.int .i64 0,.int .i64 0] 159)
  replace hpl:p<(w1.alloc (.cells #[.int .i64 4,.int .i64 0,.int .i64 0] 159)).heap.size:=by simp;omega
  have xk:(w1.alloc (.cells #[.int .i64 4,.int .i64 0,.int .i64 0] 159)).cell? ⟨w1.heap.size,0,none⟩=some (.int .i64 4):=by simp [go_sem]
  clear hXb hGx
  go_wp2_with fail
  clear xk
  generalize w1.alloc (.cells #[.int .i64 4,.int .i64 0,.int .i64 0] 159)=wx at hXr hRr hS hC hWt hpl
  generalize w1.heap.size=X at hXr hbs hbX
  refine (next_any p (T+3) a n cap 2 _ hS hC (by omega) (by omega)).mono ?_
  rintro e w2 ⟨⟨va,hva,rfl⟩,hSn,hWn⟩
  replace hS:=hSn
  replace hRr:=owns_wn hRr hWn hpB
  replace hXr:=owns_wn hXr hWn hpB
  replace hC:=hC.went hWn (Nat.le_of_lt hpl)
  replace hpl:=Nat.lt_of_lt_of_le hpl (hWn).size
  replace hWt:=hWt.trans hWn
  clear hSn hWn
  have hva2:va<2:=by omega
  have xs:w2.cell? ⟨X,1,none⟩=some (.int .i64 0):=by simpa using hXr.cellAt 1 (by omega)
  have fs:=hXr.frozenAt 1
  have hXn:=(hXr.stored 1 (.int .i64 (va:Int))).1
  have hRn:(w2.setCell ⟨X,1,none⟩ (.int .i64 (va:Int))).ownsRow w.heap.size 159 3 (.slice (some ⟨w.heap.size,0,none⟩) 1 1) 1 [.int .i64 0,.int .i64 0,.int .i64 0]:=ownsRow_setCell_other hRr (by simp [Value.ownBlock];omega) _
  have hGn:=grownBy_set w2 X 1 (.int .i64 (va:Int))
  have hSn:=hS.grown hGn (fun k e=>by cases e;omega)
  have hWn:Went p w (w2.setCell ⟨X,1,none⟩ (.int .i64 (va:Int))):=hWt.grown hGn (fun k e=>by cases e;omega)
  have hCn:=hC.below (grown_below hGn (show p≤X by omega) (Nat.le_of_lt hpl))
  have hpn:p<(w2.setCell ⟨X,1,none⟩ (.int .i64 (va:Int))).heap.size:=Nat.lt_of_lt_of_le hpl hGn.size
  simp only [List.set_cons_succ,List.set_cons_zero] at hXn
  clear hXr hRr hS hWt hC hpl hGn
  go_wp2_with fail
  clear xs fs
  generalize w2.setCell ⟨X,1,none⟩ (.int .i64 (va:Int))=w3 at hXn hRn hSn hWn hCn hpn
  have hXr:=hXn
  have hRr:=hRn
  have hS:=hSn
  have hWt:=hWn
  have hC:=hCn
  have hpl:=hpn
  clear hXn hRn hSn hWn hCn hpn
  refine (next_any p (T+3+3) a n cap 3 _ hS hC (by omega) (by omega)).mono ?_
  rintro e w4 ⟨⟨vb,hvb,rfl⟩,hSn,hWn⟩
  replace hS:=hSn
  replace hRr:=owns_wn hRr hWn hpB
  replace hXr:=owns_wn hXr hWn hpB
  replace hC:=hC.went hWn (Nat.le_of_lt hpl)
  replace hpl:=Nat.lt_of_lt_of_le hpl (hWn).size
  replace hWt:=hWt.trans hWn
  clear hSn hWn
  have hvb2:vb<3:=by omega
  have xs:w4.cell? ⟨X,2,none⟩=some (.int .i64 0):=by simpa using hXr.cellAt 2 (by omega)
  have fs:=hXr.frozenAt 2
  have hXn:=(hXr.stored 2 (.int .i64 (vb:Int))).1
  have hRn:(w4.setCell ⟨X,2,none⟩ (.int .i64 (vb:Int))).ownsRow w.heap.size 159 3 (.slice (some ⟨w.heap.size,0,none⟩) 1 1) 1 [.int .i64 0,.int .i64 0,.int .i64 0]:=ownsRow_setCell_other hRr (by simp [Value.ownBlock];omega) _
  have hGn:=grownBy_set w4 X 2 (.int .i64 (vb:Int))
  have hSn:=hS.grown hGn (fun k e=>by cases e;omega)
  have hWn:Went p w (w4.setCell ⟨X,2,none⟩ (.int .i64 (vb:Int))):=hWt.grown hGn (fun k e=>by cases e;omega)
  have hCn:=hC.below (grown_below hGn (show p≤X by omega) (Nat.le_of_lt hpl))
  have hpn:p<(w4.setCell ⟨X,2,none⟩ (.int .i64 (vb:Int))).heap.size:=Nat.lt_of_lt_of_le hpl hGn.size
  simp only [List.set_cons_succ,List.set_cons_zero] at hXn
  clear hXr hRr hS hWt hC hpl hGn
  have x0:(w4.setCell ⟨X,2,none⟩ (.int .i64 (vb:Int))).cell? ⟨X,0,none⟩=some (.int .i64 4):=by simpa using hXn.cellAt 0 (by omega)
  have x1:(w4.setCell ⟨X,2,none⟩ (.int .i64 (vb:Int))).cell? ⟨X,1,none⟩=some (.int .i64 (va:Int)):=by simpa using hXn.cellAt 1 (by omega)
  have x2:(w4.setCell ⟨X,2,none⟩ (.int .i64 (vb:Int))).cell? ⟨X,2,none⟩=some (.int .i64 (vb:Int)):=by simpa using hXn.cellAt 2 (by omega)
  have kR0:(w4.setCell ⟨X,2,none⟩ (.int .i64 (vb:Int))).cell? ⟨w.heap.size,0,none⟩=some (.int .i64 0):=by simpa using hRn.cellAt 0 (by omega)
  have kR1:(w4.setCell ⟨X,2,none⟩ (.int .i64 (vb:Int))).cell? ⟨w.heap.size,1,none⟩=some (.int .i64 0):=by simpa using hRn.cellAt 1 (by omega)
  have kR2:(w4.setCell ⟨X,2,none⟩ (.int .i64 (vb:Int))).cell? ⟨w.heap.size,2,none⟩=some (.int .i64 0):=by simpa using hRn.cellAt 2 (by omega)
  have fR0:=hRn.frozenAt 0
  have fR1:=hRn.frozenAt 1
  have fR2:=hRn.frozenAt 2
  have hR9:=(((hRn.stored 0 (.int .i64 4)).1.stored 1 (.int .i64 (va:Int))).1.stored 2 (.int .i64 (vb:Int))).1
  have g9:=grownBy_tr (grownBy_set (w4.setCell ⟨X,2,none⟩ (.int .i64 (vb:Int))) w.heap.size 0 (.int .i64 4)) (grownBy_tr (grownBy_set _ w.heap.size 1 (.int .i64 (va:Int))) (grownBy_set _ w.heap.size 2 (.int .i64 (vb:Int))))
  have hS9:=(hSn.grown g9 (fun k e=>by cases e;omega)).mono (show _≤T+9 by omega)
  have hW9:=hWn.grown g9 (fun k e=>by cases e;omega)
  clear hRn hXn hSn hWn hCn hpn g9
  go_wp2
  clear kR0 kR1 kR2 fR0 fR1 fR2 x0 x1 x2 xs fs
  generalize (((w4.setCell ⟨X,2,none⟩ (.int .i64 (vb:Int))).setCell ⟨w.heap.size,0,none⟩ (.int .i64 4)).setCell ⟨w.heap.size,1,none⟩ (.int .i64 (va:Int))).setCell ⟨w.heap.size,2,none⟩ (.int .i64 (vb:Int))=w9 at hR9 hS9 hW9
  have k0:w9.cell? ⟨w.heap.size,0,none⟩=some (.int .i64 4):=by simpa using hR9.cellAt 0 (by omega)
  have k1:w9.cell? ⟨w.heap.size,1,none⟩=some (.int .i64 (va:Int)):=by simpa using hR9.cellAt 1 (by omega)
  have k2:w9.cell? ⟨w.heap.size,2,none⟩=some (.int .i64 (vb:Int)):=by simpa using hR9.cellAt 2 (by omega)
  refine bodyPost_ret (by simp [results,Tryz.results115,go_sem,k0,k1,k2];try rfl) rfl ?_
  refine ⟨⟨(4,(va:Int),(vb:Int)),?_,rfl⟩,hS9,hW9⟩
  have ha:va=0∨va=1:=by omega
  have hb:vb=0∨vb=1∨vb=2:=by omega
  refine ⟨?_,?_⟩
  ·rcases ha with rfl | rfl<;>rcases hb with rfl | rfl | rfl<;>decide
  ·exact drawn_other (by show (4:Int)≠7;decide)
 ·have hXb:=box3_ (w1) (.int .i64 5) (.int .i64 0) (.int .i64 0) 159 w.heap.size hbs
  have hXr:=hXb
  have hGx:w1.grownBy (w1.alloc (.cells #[.int .i64 5,.int .i64 0,.int .i64 0] 159)) none:=World.grownBy_alloc w1 _ none
  replace hRr:=hRr.alloc (.cells #[.int .i64 5,.int .i64 0,.int .i64 0] 159)
  replace hS:=hS.alloc (.cells #[.int .i64 5,.int .i64 0,.int .i64 0] 159)
  replace hC:=hC.below ((Below.refl p w1).alloc (Nat.le_of_lt hpl) (.cells #[.int .i64 5,.int .i64 0,.int .i64 0] 159))
  replace hWt:=hWt.alloc (.cells #[.int .i64 5,.int .i64 0,.int .i64 0] 159)
  replace hpl:p<(w1.alloc (.cells #[.int .i64 5,.int .i64 0,.int .i64 0] 159)).heap.size:=by simp;omega
  have xk:(w1.alloc (.cells #[.int .i64 5,.int .i64 0,.int .i64 0] 159)).cell? ⟨w1.heap.size,0,none⟩=some (.int .i64 5):=by simp [go_sem]
  clear hXb hGx
  go_wp2_with fail
  clear xk
  generalize w1.alloc (.cells #[.int .i64 5,.int .i64 0,.int .i64 0] 159)=wx at hXr hRr hS hC hWt hpl
  generalize w1.heap.size=X at hXr hbs hbX
  refine (next_any p (T+3) a n cap 2 _ hS hC (by omega) (by omega)).mono ?_
  rintro e w2 ⟨⟨va,hva,rfl⟩,hSn,hWn⟩
  replace hS:=hSn
  replace hRr:=owns_wn hRr hWn hpB
  replace hXr:=owns_wn hXr hWn hpB
  replace hC:=hC.went hWn (Nat.le_of_lt hpl)
  replace hpl:=Nat.lt_of_lt_of_le hpl (hWn).size
  replace hWt:=hWt.trans hWn
  clear hSn hWn
  have hva2:va<2:=by omega
  have xs:w2.cell? ⟨X,1,none⟩=some (.int .i64 0):=by simpa using hXr.cellAt 1 (by omega)
  have fs:=hXr.frozenAt 1
  have hXn:=(hXr.stored 1 (.int .i64 (va:Int))).1
  have hRn:(w2.setCell ⟨X,1,none⟩ (.int .i64 (va:Int))).ownsRow w.heap.size 159 3 (.slice (some ⟨w.heap.size,0,none⟩) 1 1) 1 [.int .i64 0,.int .i64 0,.int .i64 0]:=ownsRow_setCell_other hRr (by simp [Value.ownBlock];omega) _
  have hGn:=grownBy_set w2 X 1 (.int .i64 (va:Int))
  have hSn:=hS.grown hGn (fun k e=>by cases e;omega)
  have hWn:Went p w (w2.setCell ⟨X,1,none⟩ (.int .i64 (va:Int))):=hWt.grown hGn (fun k e=>by cases e;omega)
  have hCn:=hC.below (grown_below hGn (show p≤X by omega) (Nat.le_of_lt hpl))
  have hpn:p<(w2.setCell ⟨X,1,none⟩ (.int .i64 (va:Int))).heap.size:=Nat.lt_of_lt_of_le hpl hGn.size
  simp only [List.set_cons_succ,List.set_cons_zero] at hXn
  clear hXr hRr hS hWt hC hpl hGn
  have x0:(w2.setCell ⟨X,1,none⟩ (.int .i64 (va:Int))).cell? ⟨X,0,none⟩=some (.int .i64 5):=by simpa using hXn.cellAt 0 (by omega)
  have x1:(w2.setCell ⟨X,1,none⟩ (.int .i64 (va:Int))).cell? ⟨X,1,none⟩=some (.int .i64 (va:Int)):=by simpa using hXn.cellAt 1 (by omega)
  have x2:(w2.setCell ⟨X,1,none⟩ (.int .i64 (va:Int))).cell? ⟨X,2,none⟩=some (.int .i64 0):=by simpa using hXn.cellAt 2 (by omega)
  have kR0:(w2.setCell ⟨X,1,none⟩ (.int .i64 (va:Int))).cell? ⟨w.heap.size,0,none⟩=some (.int .i64 0):=by simpa using hRn.cellAt 0 (by omega)
  have kR1:(w2.setCell ⟨X,1,none⟩ (.int .i64 (va:Int))).cell? ⟨w.heap.size,1,none⟩=some (.int .i64 0):=by simpa using hRn.cellAt 1 (by omega)
  have kR2:(w2.setCell ⟨X,1,none⟩ (.int .i64 (va:Int))).cell? ⟨w.heap.size,2,none⟩=some (.int .i64 0):=by simpa using hRn.cellAt 2 (by omega)
  have fR0:=hRn.frozenAt 0
  have fR1:=hRn.frozenAt 1
  have fR2:=hRn.frozenAt 2
  have hR9:=(((hRn.stored 0 (.int .i64 5)).1.stored 1 (.int .i64 (va:Int))).1.stored 2 (.int .i64 0)).1
  have g9:=grownBy_tr (grownBy_set (w2.setCell ⟨X,1,none⟩ (.int .i64 (va:Int))) w.heap.size 0 (.int .i64 5)) (grownBy_tr (grownBy_set _ w.heap.size 1 (.int .i64 (va:Int))) (grownBy_set _ w.heap.size 2 (.int .i64 0)))
  have hS9:=(hSn.grown g9 (fun k e=>by cases e;omega)).mono (show _≤T+9 by omega)
  have hW9:=hWn.grown g9 (fun k e=>by cases e;omega)
  clear hRn hXn hSn hWn hCn hpn g9
  go_wp2
  clear kR0 kR1 kR2 fR0 fR1 fR2 x0 x1 x2 xs fs
  generalize (((w2.setCell ⟨X,1,none⟩ (.int .i64 (va:Int))).setCell ⟨w.heap.size,0,none⟩ (.int .i64 5)).setCell ⟨w.heap.size,1,none⟩ (.int .i64 (va:Int))).setCell ⟨w.heap.size,2,none⟩ (.int .i64 0)=w9 at hR9 hS9 hW9
  have k0:w9.cell? ⟨w.heap.size,0,none⟩=some (.int .i64 5):=by simpa using hR9.cellAt 0 (by omega)
  have k1:w9.cell? ⟨w.heap.size,1,none⟩=some (.int .i64 (va:Int)):=by simpa using hR9.cellAt 1 (by omega)
  have k2:w9.cell? ⟨w.heap.size,2,none⟩=some (.int .i64 0):=by simpa using hR9.cellAt 2 (by omega)
  refine bodyPost_ret (by simp [results,Tryz.results115,go_sem,k0,k1,k2];try rfl) rfl ?_
  refine ⟨⟨(5,(va:Int),0),?_,rfl⟩,hS9,hW9⟩
  have ha:va=0∨va=1:=by omega
  refine ⟨?_,?_⟩
  ·rcases ha with rfl | rfl<;>decide
  ·exact drawn_other (by simp)
 ·have hXb:=box3_ (w1) (.int .i64 6) (.int .i64 0) (.int .i64 0) 159 w.heap.size hbs
  have hXr:=hXb
  have hGx:w1.grownBy (w1.alloc (.cells #[.int .i64 6,.int .i64 0,.int .i64 0] 159)) none:=World.grownBy_alloc w1 _ none
  replace hRr:=hRr.alloc (.cells #[.int .i64 6,.int .i64 0,.int .i64 0] 159)
  replace hS:=hS.alloc (.cells #[.int .i64 6,.int .i64 0,.int .i64 0] 159)
  replace hC:=hC.below ((Below.refl p w1).alloc (Nat.le_of_lt hpl) (.cells #[.int .i64 6,.int .i64 0,.int .i64 0] 159))
  replace hWt:=hWt.alloc (.cells #[.int .i64 6,.int .i64 0,.int .i64 0] 159)
  replace hpl:p<(w1.alloc (.cells #[.int .i64 6,.int .i64 0,.int .i64 0] 159)).heap.size:=by simp;omega
  have xk:(w1.alloc (.cells #[.int .i64 6,.int .i64 0,.int .i64 0] 159)).cell? ⟨w1.heap.size,0,none⟩=some (.int .i64 6):=by simp [go_sem]
  clear hXb hGx
  go_wp2_with fail
  clear xk
  generalize w1.alloc (.cells #[.int .i64 6,.int .i64 0,.int .i64 0] 159)=wx at hXr hRr hS hC hWt hpl
  generalize w1.heap.size=X at hXr hbs hbX
  refine (next_any p (T+3) a n cap 2 _ hS hC (by omega) (by omega)).mono ?_
  rintro e w2 ⟨⟨va,hva,rfl⟩,hSn,hWn⟩
  replace hS:=hSn
  replace hRr:=owns_wn hRr hWn hpB
  replace hXr:=owns_wn hXr hWn hpB
  replace hC:=hC.went hWn (Nat.le_of_lt hpl)
  replace hpl:=Nat.lt_of_lt_of_le hpl (hWn).size
  replace hWt:=hWt.trans hWn
  clear hSn hWn
  have hva2:va<2:=by omega
  have xs:w2.cell? ⟨X,1,none⟩=some (.int .i64 0):=by simpa using hXr.cellAt 1 (by omega)
  have fs:=hXr.frozenAt 1
  have hXn:=(hXr.stored 1 (.int .i64 (va:Int))).1
  have hRn:(w2.setCell ⟨X,1,none⟩ (.int .i64 (va:Int))).ownsRow w.heap.size 159 3 (.slice (some ⟨w.heap.size,0,none⟩) 1 1) 1 [.int .i64 0,.int .i64 0,.int .i64 0]:=ownsRow_setCell_other hRr (by simp [Value.ownBlock];omega) _
  have hGn:=grownBy_set w2 X 1 (.int .i64 (va:Int))
  have hSn:=hS.grown hGn (fun k e=>by cases e;omega)
  have hWn:Went p w (w2.setCell ⟨X,1,none⟩ (.int .i64 (va:Int))):=hWt.grown hGn (fun k e=>by cases e;omega)
  have hCn:=hC.below (grown_below hGn (show p≤X by omega) (Nat.le_of_lt hpl))
  have hpn:p<(w2.setCell ⟨X,1,none⟩ (.int .i64 (va:Int))).heap.size:=Nat.lt_of_lt_of_le hpl hGn.size
  simp only [List.set_cons_succ,List.set_cons_zero] at hXn
  clear hXr hRr hS hWt hC hpl hGn
  have x0:(w2.setCell ⟨X,1,none⟩ (.int .i64 (va:Int))).cell? ⟨X,0,none⟩=some (.int .i64 6):=by simpa using hXn.cellAt 0 (by omega)
  have x1:(w2.setCell ⟨X,1,none⟩ (.int .i64 (va:Int))).cell? ⟨X,1,none⟩=some (.int .i64 (va:Int)):=by simpa using hXn.cellAt 1 (by omega)
  have x2:(w2.setCell ⟨X,1,none⟩ (.int .i64 (va:Int))).cell? ⟨X,2,none⟩=some (.int .i64 0):=by simpa using hXn.cellAt 2 (by omega)
  have kR0:(w2.setCell ⟨X,1,none⟩ (.int .i64 (va:Int))).cell? ⟨w.heap.size,0,none⟩=some (.int .i64 0):=by simpa using hRn.cellAt 0 (by omega)
  have kR1:(w2.setCell ⟨X,1,none⟩ (.int .i64 (va:Int))).cell? ⟨w.heap.size,1,none⟩=some (.int .i64 0):=by simpa using hRn.cellAt 1 (by omega)
  have kR2:(w2.setCell ⟨X,1,none⟩ (.int .i64 (va:Int))).cell? ⟨w.heap.size,2,none⟩=some (.int .i64 0):=by simpa using hRn.cellAt 2 (by omega)
  have fR0:=hRn.frozenAt 0
  have fR1:=hRn.frozenAt 1
  have fR2:=hRn.frozenAt 2
  have hR9:=(((hRn.stored 0 (.int .i64 6)).1.stored 1 (.int .i64 (va:Int))).1.stored 2 (.int .i64 0)).1
  have g9:=grownBy_tr (grownBy_set (w2.setCell ⟨X,1,none⟩ (.int .i64 (va:Int))) w.heap.size 0 (.int .i64 6)) (grownBy_tr (grownBy_set _ w.heap.size 1 (.int .i64 (va:Int))) (grownBy_set _ w.heap.size 2 (.int .i64 0)))
  have hS9:=(hSn.grown g9 (fun k e=>by cases e;omega)).mono (show _≤T+9 by omega)
  have hW9:=hWn.grown g9 (fun k e=>by cases e;omega)
  clear hRn hXn hSn hWn hCn hpn g9
  go_wp2
  clear kR0 kR1 kR2 fR0 fR1 fR2 x0 x1 x2 xs fs
  generalize (((w2.setCell ⟨X,1,none⟩ (.int .i64 (va:Int))).setCell ⟨w.heap.size,0,none⟩ (.int .i64 6)).setCell ⟨w.heap.size,1,none⟩ (.int .i64 (va:Int))).setCell ⟨w.heap.size,2,none⟩ (.int .i64 0)=w9 at hR9 hS9 hW9
  have k0:w9.cell? ⟨w.heap.size,0,none⟩=some (.int .i64 6):=by simpa using hR9.cellAt 0 (by omega)
  have k1:w9.cell? ⟨w.heap.size,1,none⟩=some (.int .i64 (va:Int)):=by simpa using hR9.cellAt 1 (by omega)
  have k2:w9.cell? ⟨w.heap.size,2,none⟩=some (.int .i64 0):=by simpa using hR9.cellAt 2 (by omega)
  refine bodyPost_ret (by simp [results,Tryz.results115,go_sem,k0,k1,k2];try rfl) rfl ?_
  refine ⟨⟨(6,(va:Int),0),?_,rfl⟩,hS9,hW9⟩
  have ha:va=0∨va=1:=by omega
  refine ⟨?_,?_⟩
  ·rcases ha with rfl | rfl<;>decide
  ·exact drawn_other (by simp)
 ·have hXb:=box3_ (w1) (.int .i64 7) (.int .i64 0) (.int .i64 0) 159 w.heap.size hbs
  have hXr:=hXb
  have hGx:w1.grownBy (w1.alloc (.cells #[.int .i64 7,.int .i64 0,.int .i64 0] 159)) none:=World.grownBy_alloc w1 _ none
  replace hRr:=hRr.alloc (.cells #[.int .i64 7,.int .i64 0,.int .i64 0] 159)
  replace hS:=hS.alloc (.cells #[.int .i64 7,.int .i64 0,.int .i64 0] 159)
  replace hC:=hC.below ((Below.refl p w1).alloc (Nat.le_of_lt hpl) (.cells #[.int .i64 7,.int .i64 0,.int .i64 0] 159))
  replace hWt:=hWt.alloc (.cells #[.int .i64 7,.int .i64 0,.int .i64 0] 159)
  replace hpl:p<(w1.alloc (.cells #[.int .i64 7,.int .i64 0,.int .i64 0] 159)).heap.size:=by simp;omega
  have xk:(w1.alloc (.cells #[.int .i64 7,.int .i64 0,.int .i64 0] 159)).cell? ⟨w1.heap.size,0,none⟩=some (.int .i64 7):=by simp [go_sem]
  clear hXb hGx
  go_wp2_with fail
  clear xk
  generalize w1.alloc (.cells #[.int .i64 7,.int .i64 0,.int .i64 0] 159)=wx at hXr hRr hS hC hWt hpl
  generalize w1.heap.size=X at hXr hbs hbX
  refine (next_any p (T+3) a n cap 2 _ hS hC (by omega) (by omega)).mono ?_
  rintro e w2 ⟨⟨va,hva,rfl⟩,hSn,hWn⟩
  replace hS:=hSn
  replace hRr:=owns_wn hRr hWn hpB
  replace hXr:=owns_wn hXr hWn hpB
  replace hC:=hC.went hWn (Nat.le_of_lt hpl)
  replace hpl:=Nat.lt_of_lt_of_le hpl (hWn).size
  replace hWt:=hWt.trans hWn
  clear hSn hWn
  have hva2:va<2:=by omega
  have xs:w2.cell? ⟨X,1,none⟩=some (.int .i64 0):=by simpa using hXr.cellAt 1 (by omega)
  have fs:=hXr.frozenAt 1
  have hXn:=(hXr.stored 1 (.int .i64 (va:Int))).1
  have hRn:(w2.setCell ⟨X,1,none⟩ (.int .i64 (va:Int))).ownsRow w.heap.size 159 3 (.slice (some ⟨w.heap.size,0,none⟩) 1 1) 1 [.int .i64 0,.int .i64 0,.int .i64 0]:=ownsRow_setCell_other hRr (by simp [Value.ownBlock];omega) _
  have hGn:=grownBy_set w2 X 1 (.int .i64 (va:Int))
  have hSn:=hS.grown hGn (fun k e=>by cases e;omega)
  have hWn:Went p w (w2.setCell ⟨X,1,none⟩ (.int .i64 (va:Int))):=hWt.grown hGn (fun k e=>by cases e;omega)
  have hCn:=hC.below (grown_below hGn (show p≤X by omega) (Nat.le_of_lt hpl))
  have hpn:p<(w2.setCell ⟨X,1,none⟩ (.int .i64 (va:Int))).heap.size:=Nat.lt_of_lt_of_le hpl hGn.size
  simp only [List.set_cons_succ,List.set_cons_zero] at hXn
  clear hXr hRr hS hWt hC hpl hGn
  go_wp2_with fail
  clear xs fs
  generalize w2.setCell ⟨X,1,none⟩ (.int .i64 (va:Int))=w3 at hXn hRn hSn hWn hCn hpn
  have hXr:=hXn
  have hRr:=hRn
  have hS:=hSn
  have hWt:=hWn
  have hC:=hCn
  have hpl:=hpn
  clear hXn hRn hSn hWn hCn hpn
  refine (next_any p (T+3+3) a n cap ((nn:Int) - (at0:Int)) _ hS hC (by omega) (by omega)).mono ?_
  rintro e w4 ⟨⟨vb,hvb,rfl⟩,hSn,hWn⟩
  replace hS:=hSn
  replace hRr:=owns_wn hRr hWn hpB
  replace hXr:=owns_wn hXr hWn hpB
  replace hC:=hC.went hWn (Nat.le_of_lt hpl)
  replace hpl:=Nat.lt_of_lt_of_le hpl (hWn).size
  replace hWt:=hWt.trans hWn
  clear hSn hWn
  obtain ⟨vt,hvt⟩:∃ vt:Nat,(at0:Int)+1+(vb:Int)=(vt:Int):=⟨at0+1+vb,by omega⟩
  have hvt1:at0+1≤vt:=by omega
  have hvt2:vt≤nn:=by omega
  have xs:w4.cell? ⟨X,2,none⟩=some (.int .i64 0):=by simpa using hXr.cellAt 2 (by omega)
  have fs:=hXr.frozenAt 2
  have hXn:=(hXr.stored 2 (.int .i64 (vt:Int))).1
  have hRn:(w4.setCell ⟨X,2,none⟩ (.int .i64 (vt:Int))).ownsRow w.heap.size 159 3 (.slice (some ⟨w.heap.size,0,none⟩) 1 1) 1 [.int .i64 0,.int .i64 0,.int .i64 0]:=ownsRow_setCell_other hRr (by simp [Value.ownBlock];omega) _
  have hGn:=grownBy_set w4 X 2 (.int .i64 (vt:Int))
  have hSn:=hS.grown hGn (fun k e=>by cases e;omega)
  have hWn:Went p w (w4.setCell ⟨X,2,none⟩ (.int .i64 (vt:Int))):=hWt.grown hGn (fun k e=>by cases e;omega)
  have hCn:=hC.below (grown_below hGn (show p≤X by omega) (Nat.le_of_lt hpl))
  have hpn:p<(w4.setCell ⟨X,2,none⟩ (.int .i64 (vt:Int))).heap.size:=Nat.lt_of_lt_of_le hpl hGn.size
  simp only [List.set_cons_succ,List.set_cons_zero] at hXn
  clear hXr hRr hS hWt hC hpl hGn
  have x0:(w4.setCell ⟨X,2,none⟩ (.int .i64 (vt:Int))).cell? ⟨X,0,none⟩=some (.int .i64 7):=by simpa using hXn.cellAt 0 (by omega)
  have x1:(w4.setCell ⟨X,2,none⟩ (.int .i64 (vt:Int))).cell? ⟨X,1,none⟩=some (.int .i64 (va:Int)):=by simpa using hXn.cellAt 1 (by omega)
  have x2:(w4.setCell ⟨X,2,none⟩ (.int .i64 (vt:Int))).cell? ⟨X,2,none⟩=some (.int .i64 (vt:Int)):=by simpa using hXn.cellAt 2 (by omega)
  have kR0:(w4.setCell ⟨X,2,none⟩ (.int .i64 (vt:Int))).cell? ⟨w.heap.size,0,none⟩=some (.int .i64 0):=by simpa using hRn.cellAt 0 (by omega)
  have kR1:(w4.setCell ⟨X,2,none⟩ (.int .i64 (vt:Int))).cell? ⟨w.heap.size,1,none⟩=some (.int .i64 0):=by simpa using hRn.cellAt 1 (by omega)
  have kR2:(w4.setCell ⟨X,2,none⟩ (.int .i64 (vt:Int))).cell? ⟨w.heap.size,2,none⟩=some (.int .i64 0):=by simpa using hRn.cellAt 2 (by omega)
  have fR0:=hRn.frozenAt 0
  have fR1:=hRn.frozenAt 1
  have fR2:=hRn.frozenAt 2
  have hR9:=(((hRn.stored 0 (.int .i64 7)).1.stored 1 (.int .i64 (va:Int))).1.stored 2 (.int .i64 (vt:Int))).1
  have g9:=grownBy_tr (grownBy_set (w4.setCell ⟨X,2,none⟩ (.int .i64 (vt:Int))) w.heap.size 0 (.int .i64 7)) (grownBy_tr (grownBy_set _ w.heap.size 1 (.int .i64 (va:Int))) (grownBy_set _ w.heap.size 2 (.int .i64 (vt:Int))))
  have hS9:=(hSn.grown g9 (fun k e=>by cases e;omega)).mono (show _≤T+9 by omega)
  have hW9:=hWn.grown g9 (fun k e=>by cases e;omega)
  clear hRn hXn hSn hWn hCn hpn g9
  go_wp2
  clear kR0 kR1 kR2 fR0 fR1 fR2 x0 x1 x2 xs fs
  generalize (((w4.setCell ⟨X,2,none⟩ (.int .i64 (vt:Int))).setCell ⟨w.heap.size,0,none⟩ (.int .i64 7)).setCell ⟨w.heap.size,1,none⟩ (.int .i64 (va:Int))).setCell ⟨w.heap.size,2,none⟩ (.int .i64 (vt:Int))=w9 at hR9 hS9 hW9
  have k0:w9.cell? ⟨w.heap.size,0,none⟩=some (.int .i64 7):=by simpa using hR9.cellAt 0 (by omega)
  have k1:w9.cell? ⟨w.heap.size,1,none⟩=some (.int .i64 (va:Int)):=by simpa using hR9.cellAt 1 (by omega)
  have k2:w9.cell? ⟨w.heap.size,2,none⟩=some (.int .i64 (vt:Int)):=by simpa using hR9.cellAt 2 (by omega)
  refine bodyPost_ret (by simp [results,Tryz.results115,go_sem,k0,k1,k2];try rfl) rfl ?_
  refine ⟨⟨(7,(va:Int),(vt:Int)),?_,rfl⟩,hS9,hW9⟩
  have ha:va=0∨va=1:=by omega
  have hb:vt=1∨vt=2∨vt=3:=by omega
  refine ⟨?_,?_⟩
  ·rcases ha with rfl | rfl<;>rcases hb with rfl | rfl | rfl<;>decide
  ·exact drawn_leads hvt1 hvt2
 ·have hXb:=box3_ (w1) (.int .i64 8) (.int .i64 0) (.int .i64 0) 159 w.heap.size hbs
  have hXr:=hXb
  have hGx:w1.grownBy (w1.alloc (.cells #[.int .i64 8,.int .i64 0,.int .i64 0] 159)) none:=World.grownBy_alloc w1 _ none
  replace hRr:=hRr.alloc (.cells #[.int .i64 8,.int .i64 0,.int .i64 0] 159)
  replace hS:=hS.alloc (.cells #[.int .i64 8,.int .i64 0,.int .i64 0] 159)
  replace hC:=hC.below ((Below.refl p w1).alloc (Nat.le_of_lt hpl) (.cells #[.int .i64 8,.int .i64 0,.int .i64 0] 159))
  replace hWt:=hWt.alloc (.cells #[.int .i64 8,.int .i64 0,.int .i64 0] 159)
  replace hpl:p<(w1.alloc (.cells #[.int .i64 8,.int .i64 0,.int .i64 0] 159)).heap.size:=by simp;omega
  have xk:(w1.alloc (.cells #[.int .i64 8,.int .i64 0,.int .i64 0] 159)).cell? ⟨w1.heap.size,0,none⟩=some (.int .i64 8):=by simp [go_sem]
  clear hXb hGx
  go_wp2_with fail
  clear xk
  generalize w1.alloc (.cells #[.int .i64 8,.int .i64 0,.int .i64 0] 159)=wx at hXr hRr hS hC hWt hpl
  generalize w1.heap.size=X at hXr hbs hbX
  refine (next_any p (T+3) a n cap 2 _ hS hC (by omega) (by omega)).mono ?_
  rintro e w2 ⟨⟨va,hva,rfl⟩,hSn,hWn⟩
  replace hS:=hSn
  replace hRr:=owns_wn hRr hWn hpB
  replace hXr:=owns_wn hXr hWn hpB
  replace hC:=hC.went hWn (Nat.le_of_lt hpl)
  replace hpl:=Nat.lt_of_lt_of_le hpl (hWn).size
  replace hWt:=hWt.trans hWn
  clear hSn hWn
  have hva2:va<2:=by omega
  have xs:w2.cell? ⟨X,1,none⟩=some (.int .i64 0):=by simpa using hXr.cellAt 1 (by omega)
  have fs:=hXr.frozenAt 1
  have hXn:=(hXr.stored 1 (.int .i64 (va:Int))).1
  have hRn:(w2.setCell ⟨X,1,none⟩ (.int .i64 (va:Int))).ownsRow w.heap.size 159 3 (.slice (some ⟨w.heap.size,0,none⟩) 1 1) 1 [.int .i64 0,.int .i64 0,.int .i64 0]:=ownsRow_setCell_other hRr (by simp [Value.ownBlock];omega) _
  have hGn:=grownBy_set w2 X 1 (.int .i64 (va:Int))
  have hSn:=hS.grown hGn (fun k e=>by cases e;omega)
  have hWn:Went p w (w2.setCell ⟨X,1,none⟩ (.int .i64 (va:Int))):=hWt.grown hGn (fun k e=>by cases e;omega)
  have hCn:=hC.below (grown_below hGn (show p≤X by omega) (Nat.le_of_lt hpl))
  have hpn:p<(w2.setCell ⟨X,1,none⟩ (.int .i64 (va:Int))).heap.size:=Nat.lt_of_lt_of_le hpl hGn.size
  simp only [List.set_cons_succ,List.set_cons_zero] at hXn
  clear hXr hRr hS hWt hC hpl hGn
  go_wp2_with fail
  clear xs fs
  generalize w2.setCell ⟨X,1,none⟩ (.int .i64 (va:Int))=w3 at hXn hRn hSn hWn hCn hpn
  have hXr:=hXn
  have hRr:=hRn
  have hS:=hSn
  have hWt:=hWn
  have hC:=hCn
  have hpl:=hpn
  clear hXn hRn hSn hWn hCn hpn
  refine (next_any p (T+3+3) a n cap 3 _ hS hC (by omega) (by omega)).mono ?_
  rintro e w4 ⟨⟨vb,hvb,rfl⟩,hSn,hWn⟩
  replace hS:=hSn
  replace hRr:=owns_wn hRr hWn hpB
  replace hXr:=owns_wn hXr hWn hpB
  replace hC:=hC.went hWn (Nat.le_of_lt hpl)
  replace hpl:=Nat.lt_of_lt_of_le hpl (hWn).size
  replace hWt:=hWt.trans hWn
  clear hSn hWn
  have hvb2:vb<3:=by omega
  have xs:w4.cell? ⟨X,2,none⟩=some (.int .i64 0):=by simpa using hXr.cellAt 2 (by omega)
  have fs:=hXr.frozenAt 2
  have hXn:=(hXr.stored 2 (.int .i64 (vb:Int))).1
  have hRn:(w4.setCell ⟨X,2,none⟩ (.int .i64 (vb:Int))).ownsRow w.heap.size 159 3 (.slice (some ⟨w.heap.size,0,none⟩) 1 1) 1 [.int .i64 0,.int .i64 0,.int .i64 0]:=ownsRow_setCell_other hRr (by simp [Value.ownBlock];omega) _
  have hGn:=grownBy_set w4 X 2 (.int .i64 (vb:Int))
  have hSn:=hS.grown hGn (fun k e=>by cases e;omega)
  have hWn:Went p w (w4.setCell ⟨X,2,none⟩ (.int .i64 (vb:Int))):=hWt.grown hGn (fun k e=>by cases e;omega)
  have hCn:=hC.below (grown_below hGn (show p≤X by omega) (Nat.le_of_lt hpl))
  have hpn:p<(w4.setCell ⟨X,2,none⟩ (.int .i64 (vb:Int))).heap.size:=Nat.lt_of_lt_of_le hpl hGn.size
  simp only [List.set_cons_succ,List.set_cons_zero] at hXn
  clear hXr hRr hS hWt hC hpl hGn
  have x0:(w4.setCell ⟨X,2,none⟩ (.int .i64 (vb:Int))).cell? ⟨X,0,none⟩=some (.int .i64 8):=by simpa using hXn.cellAt 0 (by omega)
  have x1:(w4.setCell ⟨X,2,none⟩ (.int .i64 (vb:Int))).cell? ⟨X,1,none⟩=some (.int .i64 (va:Int)):=by simpa using hXn.cellAt 1 (by omega)
  have x2:(w4.setCell ⟨X,2,none⟩ (.int .i64 (vb:Int))).cell? ⟨X,2,none⟩=some (.int .i64 (vb:Int)):=by simpa using hXn.cellAt 2 (by omega)
  have kR0:(w4.setCell ⟨X,2,none⟩ (.int .i64 (vb:Int))).cell? ⟨w.heap.size,0,none⟩=some (.int .i64 0):=by simpa using hRn.cellAt 0 (by omega)
  have kR1:(w4.setCell ⟨X,2,none⟩ (.int .i64 (vb:Int))).cell? ⟨w.heap.size,1,none⟩=some (.int .i64 0):=by simpa using hRn.cellAt 1 (by omega)
  have kR2:(w4.setCell ⟨X,2,none⟩ (.int .i64 (vb:Int))).cell? ⟨w.heap.size,2,none⟩=some (.int .i64 0):=by simpa using hRn.cellAt 2 (by omega)
  have fR0:=hRn.frozenAt 0
  have fR1:=hRn.frozenAt 1
  have fR2:=hRn.frozenAt 2
  have hR9:=(((hRn.stored 0 (.int .i64 8)).1.stored 1 (.int .i64 (va:Int))).1.stored 2 (.int .i64 (vb:Int))).1
  have g9:=grownBy_tr (grownBy_set (w4.setCell ⟨X,2,none⟩ (.int .i64 (vb:Int))) w.heap.size 0 (.int .i64 8)) (grownBy_tr (grownBy_set _ w.heap.size 1 (.int .i64 (va:Int))) (grownBy_set _ w.heap.size 2 (.int .i64 (vb:Int))))
  have hS9:=(hSn.grown g9 (fun k e=>by cases e;omega)).mono (show _≤T+9 by omega)
  have hW9:=hWn.grown g9 (fun k e=>by cases e;omega)
  clear hRn hXn hSn hWn hCn hpn g9
  go_wp2
  clear kR0 kR1 kR2 fR0 fR1 fR2 x0 x1 x2 xs fs
  generalize (((w4.setCell ⟨X,2,none⟩ (.int .i64 (vb:Int))).setCell ⟨w.heap.size,0,none⟩ (.int .i64 8)).setCell ⟨w.heap.size,1,none⟩ (.int .i64 (va:Int))).setCell ⟨w.heap.size,2,none⟩ (.int .i64 (vb:Int))=w9 at hR9 hS9 hW9
  have k0:w9.cell? ⟨w.heap.size,0,none⟩=some (.int .i64 8):=by simpa using hR9.cellAt 0 (by omega)
  have k1:w9.cell? ⟨w.heap.size,1,none⟩=some (.int .i64 (va:Int)):=by simpa using hR9.cellAt 1 (by omega)
  have k2:w9.cell? ⟨w.heap.size,2,none⟩=some (.int .i64 (vb:Int)):=by simpa using hR9.cellAt 2 (by omega)
  refine bodyPost_ret (by simp [results,Tryz.results115,go_sem,k0,k1,k2];try rfl) rfl ?_
  refine ⟨⟨(8,(va:Int),(vb:Int)),?_,rfl⟩,hS9,hW9⟩
  have ha:va=0∨va=1:=by omega
  have hb:vb=0∨vb=1∨vb=2:=by omega
  refine ⟨?_,?_⟩
  ·rcases ha with rfl | rfl<;>rcases hb with rfl | rfl | rfl<;>decide
  ·exact drawn_other (by show (8:Int)≠7;decide)


def opWL:List (List UInt8):=[[],[108,111,97,100],[115,116,111,114,101],[115,101,116],[97,100,100],[108,111,99,107],[117,110,108,111,99,107],[106,117,109,112],[97,115,115,101,114,116]]
def opB (k:Nat):ByteArray:=⟨(opWL.getD k []).toArray⟩


def bt (s:ByteArray) (k:Nat):Nat:=if h:k<s.size then (s[k]'h).toNat else 0
def IsEnd (s:ByteArray) (p k:Nat):Prop:=1≤k∧k≤5∧p+k≤s.size∧(∀ i,i+1<k→128≤bt s (p+i))∧bt s (p+k - 1)<128
theorem IsEnd.only {s:ByteArray} {p k j:Nat} (h:IsEnd s p k) (g:IsEnd s p j):k=j:=by
 obtain ⟨h1,h2,h3,h4,h5⟩:=h
 obtain ⟨g1,g2,g3,g4,g5⟩:=g
 rcases Nat.lt_trichotomy k j with hl | hl | hl
 ·have:=g4 (k - 1) (by omega)
  rw [show p+(k - 1)=p+k - 1 by omega] at this
  omega
 ·exact hl
 ·have:=h4 (j - 1) (by omega)
  rw [show p+(j - 1)=p+j - 1 by omega] at this
  omega
def val (s:ByteArray) (p:Nat):Nat→Nat
 | 0=>0
 | 1=>bt s p % 128
 | 2=>bt s p % 128+bt s (p+1) % 128*128
 | 3=>bt s p % 128+bt s (p+1) % 128*128+bt s (p+2) % 128*16384
 | 4=>bt s p % 128+bt s (p+1) % 128*128+bt s (p+2) % 128*16384+bt s (p+3) % 128*2097152
 | _=>bt s p % 128+bt s (p+1) % 128*128+bt s (p+2) % 128*16384+bt s (p+3) % 128*2097152+bt s (p+4) % 128*268435456

def Num (s:ByteArray) (p n k:Nat):Prop:=IsEnd s p k∧¬ (1<k∧bt s (p+k - 1)=0)∧n=val s p k∧n≤999999999
theorem Num.only {s:ByteArray} {p n k m j:Nat} (h:Num s p n k) (g:Num s p m j):n=m∧k=j:=by
 have e:=h.1.only g.1
 subst e
 exact ⟨h.2.2.1.trans g.2.2.1.symm,rfl⟩
def hv (s:ByteArray) (p k:Nat):Nat→Nat
 | 0=>0
 | j+1=>hv s p k j*128+bt s (p+k - 1 - j) % 128
end Go.Proofs.YtifoggpohlegmaaGreatDoor
