/-
  Joined: VmDraw, BugPl.
-/
import Derived.Test.YtifoggpohlegmaaGreatDoorF13
import Derived.Test.YtifoggpohlegmaaGreatDoorF21

namespace Go.Proofs.YtifoggpohlegmaaGreatDoor
set_option maxRecDepth 100000
set_option maxHeartbeats 16000000
open Go.RowKit
set_option linter.unusedVariables false
set_option linter.unusedSimpArgs false

theorem Went.of_below {p:Nat} {w w':World} (h:Below w.heap.size w w'):Went p w w':=⟨h.os,h.tape,h.output,h.size,fun k hk _=>h.block k hk⟩
theorem Blk.went {p g t:Nat} {w w':World} {cs:List Value} (h:Blk w g t cs) (hw:Went p w w') (hne:g≠p):Blk w' g t cs:=h.kept hw (fun e=>hne (by cases e;rfl))
theorem OwnV.went {p B:Nat} {w w':World} {s:S4} {m:V4} (h:OwnV w B s m) (hw:Went p w w') (hp:p<B):OwnV w' B s m:=⟨⟨owns_wn h.1.1 hw hp,owns_wn h.1.2.1 hw hp,owns_wn h.1.2.2.1 hw hp,owns_wn h.1.2.2.2 hw hp⟩,h.2⟩
theorem OwnI.went {p B:Nat} {w w':World} {s:Sl} {zs:List Int} (h:OwnI w B s zs) (hw:Went p w w') (hp:p<B):OwnI w' B s zs:=owns_wn h hw hp
theorem OwnV.lowerB {B B':Nat} {w:World} {s:S4} {m:V4} (h:OwnV w B s m) (hB:B'≤B):OwnV w B' s m:=⟨⟨own_lower h.1.1 hB,own_lower h.1.2.1 hB,own_lower h.1.2.2.1 hB,own_lower h.1.2.2.2 hB⟩,h.2⟩
theorem Src.belowD {p T:Nat} {c:Value} {w w':World} (h:Src w p c T) (hb:Below w.heap.size w w'):Src w' p c T:=h.grown (row:=none) ⟨hb.os,hb.tape,hb.output,hb.size,fun k hk _=>hb.block k hk⟩ (fun k e=>by cases e)
theorem zero_shape:shapeOk zeroV=true:=by decide
def vmC (t:S4):List Value:=[.slice t.1.1 t.1.2.1 t.1.2.2,.slice t.2.1.1 t.2.1.2.1 t.2.1.2.2,.slice t.2.2.1.1 t.2.2.1.2.1 t.2.2.1.2.2,.slice t.2.2.2.1 t.2.2.2.2.1 t.2.2.2.2.2]
theorem step_store_blkD {P:Program} {ops:Array Oper} {o:Oper} {a:Act} {w:World} {K:Act→World→Prop} {Q:Exit→Act→World→Prop} {E:Prop} (hgd:o.guard=none) (ty:TypeId) (x y:Operand) (ho:o.op=.store ty x y) (g:Nat) (vs:List Value) (hx:a.eval x=.pointer (some ⟨g,0,none⟩)) (hy:a.eval y=.agg vs.toArray) {t:Nat} {cs:List Value} (hB:Blk w g t cs)
  (hi:(P.info? ty).map (·.size)=some vs.length) (hl:cs.length=vs.length) (h1:vs.all (·.oneCell')=true)
  (h:∀ w',Hid (Blk w' g t vs)→w.grownBy w' (some g)→K (a.put o.dst undef) w'):if Region.wanted o (yielded ops a.tmps)=true then Oper.wp P o a w K Q else E:=by
 have hw:Region.wanted o (yielded ops a.tmps)=true:=by simp [Region.wanted,hgd]
 rw [if_pos hw]
 exact wp_store_row ty x y ho g vs.toArray hx hy t cs.toArray hB (by simpa using hi) (by simpa using hl) (by simpa using h1) (h _ (blk_setRow vs hB) (grown_setRow _ _ _))
theorem cellsD {U:World} {X3 X5 lg ll lc B t3 t5:Nat} {y x0 x1 x2 x3:Value} {es:List Int} (pP:Blk U X3 t3 [y]) (pX:Blk U X5 t5 [x0,x1,x2,x3]) (hL:OwnI U B (some ⟨lg,0,none⟩,ll,lc) es) :
  U.cell? ⟨X3,0,none⟩=some y∧U.cell? ⟨X5,0,none⟩=some x0∧U.cell? ⟨X5,1,none⟩=some x1∧U.cell? ⟨X5,2,none⟩=some x2∧U.cell? ⟨X5,3,none⟩=some x3∧∀ j,j<ll→U.cell? ⟨lg,j,none⟩=some (.int .i64 (es.getD j 0)):=⟨pP.cell 0,pX.cell 0,pX.cell 1,pX.cell 2,pX.cell 3,fun j hj=>hL.at9 hj⟩
def OnWay (w wr:World) (p:Nat) (cd:Value) (a:Option Addr) (n cap T X5:Nat) (aP:Option Addr) (capP:Nat) (t:S4) (m:V4):Prop:=
 Src wr p cd T∧Code wr p a n cap∧p<wr.heap.size∧Went p w wr∧Blk wr w.heap.size 25 [.slice aP 3 capP]∧Blk wr (w.heap.size+1) 33 [.slice none 0 0,.slice none 0 0,.slice none 0 0,.slice none 0 0]∧Blk wr X5 33 (vmC t)∧OwnV wr (w.heap.size+2) t m∧Hid (shapeOk m=true)

theorem vm_go (p T:Nat) (a:Option Addr) (n cap:Nat) (aP:Option Addr) (capP:Nat) (rows:List (List I3)) (w:World) (hS:Src w p (.slice a n cap) T) (hC:Code w p a n cap) (hT:T≤800000) (hok:progOk rows=true)
  (hPr:∀ W,Went p w W→Codes W aP 3 capP rows) :
  Calls Tryz.prog 107 #[.pointer (some ⟨p,0,none⟩),.agg #[.slice aP 3 capP]] w fun e w'=>(∃ (t:S4) (m:V4),e=.returned t.val∧OwnV w' w.heap.size t m∧shapeOk m=true)∧Src w' p (.slice a n cap) (T+40)∧Went p w w':=by
 have hpw:p<w.heap.size:=hS.lt
 have HOK:Hid (progOk rows=true):=hok
 clear hok
 have hW1:Went p w ((w.alloc (.cells #[.slice aP 3 capP] 25)).alloc (.cells #[.slice none 0 0,.slice none 0 0,.slice none 0 0,.slice none 0 0] 33)):=((Went.refl p w).alloc _).alloc _
 have pP:Blk ((w.alloc (.cells #[.slice aP 3 capP] 25)).alloc (.cells #[.slice none 0 0,.slice none 0 0,.slice none 0 0,.slice none 0 0] 33)) w.heap.size 25 [.slice aP 3 capP]:=blkOld _ (blkAt _ _ _ rfl)
 have pR:Blk ((w.alloc (.cells #[.slice aP 3 capP] 25)).alloc (.cells #[.slice none 0 0,.slice none 0 0,.slice none 0 0,.slice none 0 0] 33)) (w.heap.size+1) 33 [.slice none 0 0,.slice none 0 0,.slice none 0 0,.slice none 0 0]:=blkAt _ _ _ (by simp)
 have hS1:=(hS.alloc (.cells #[.slice aP 3 capP] 25)).alloc (.cells #[.slice none 0 0,.slice none 0 0,.slice none 0 0,.slice none 0 0] 33)
 have hC1:=hC.below (hW1.below (Nat.le_of_lt hpw))
 have hsz:((w.alloc (.cells #[.slice aP 3 capP] 25)).alloc (.cells #[.slice none 0 0,.slice none 0 0,.slice none 0 0,.slice none 0 0] 33)).heap.size=w.heap.size+2:=by simp
 go_enter Tryz.func107,Tryz.ntmps107
 go_wp2_with fail
 generalize ((w.alloc (.cells #[.slice aP 3 capP] 25)).alloc (.cells #[.slice none 0 0,.slice none 0 0,.slice none 0 0,.slice none 0 0] 33))=W1 at *
 refine (specNewVm_is W1).mono ?_
 rintro e w2 ⟨⟨t0,rfl,hO⟩,hb⟩
 obtain ⟨⟨a0,n0,k0⟩,⟨a1,n1,k1⟩,⟨a2,n2,k2⟩,⟨a3,n3,k3⟩⟩:=t0
 have uA:S4.val ((a0,n0,k0),(a1,n1,k1),(a2,n2,k2),(a3,n3,k3))=.agg #[.slice a0 n0 k0,.slice a1 n1 k1,.slice a2 n2 k2,.slice a3 n3 k3]:=rfl
 rw [uA]
 clear uA
 rw [hsz] at hO
 have hW2:=hW1.trans (Went.of_below hb)
 have pP2:=pP.below hb
 have pR2:=pR.below hb
 have hS2:=hS1.belowD hb
 have hp1:p<W1.heap.size:=by omega
 have hC2:=hC1.below (hb.mono (Nat.le_of_lt hp1))
 have hp2:p<w2.heap.size:=Nat.lt_of_lt_of_le hp1 hb.size
 have hw2:w.heap.size+2≤w2.heap.size:=by have:=hb.size;omega
 clear hb hW1 pP pR hS1 hC1 hp1
 have bA:Below w2.heap.size w2 (w2.alloc (.cells #[.slice a0 n0 k0,.slice a1 n1 k1,.slice a2 n2 k2,.slice a3 n3 k3] 33)):=by go_grown
 have pX:=Blk.new w2 33 [.slice a0 n0 k0,.slice a1 n1 k1,.slice a2 n2 k2,.slice a3 n3 k3]
 have hWay:OnWay w (w2.alloc (.cells #[.slice a0 n0 k0,.slice a1 n1 k1,.slice a2 n2 k2,.slice a3 n3 k3] 33)) p (.slice a n cap) a n cap T w2.heap.size aP capP ((a0,n0,k0),(a1,n1,k1),(a2,n2,k2),(a3,n3,k3)) zeroV:=⟨hS2.belowD bA,hC2.below (bA.mono (Nat.le_of_lt hp2)),by simp;omega,hW2.trans (Went.of_below bA),pP2.below bA,pR2.below bA,pX,hO.below bA,zero_shape⟩
 clear bA pX hS2 hC2 hW2 pP2 pR2 hO
 go_wp2_with fail
 generalize (w2.alloc (.cells #[.slice a0 n0 k0,.slice a1 n1 k1,.slice a2 n2 k2,.slice a3 n3 k3] 33))=W3 at *
 generalize w2.heap.size=X5 at *
 obtain ⟨hSr,hCd,hpU,hWn,pP,pR,pX,hO,HS⟩:=hWay
 refine (next_any p T a n cap 10 W3 hSr hCd (by omega) (by omega)).mono ?_
 rintro e w4 ⟨⟨v,hv,rfl⟩,hSr4,hst⟩
 have hWay:OnWay w w4 p (.slice a n cap) a n cap (T+3) X5 aP capP ((a0,n0,k0),(a1,n1,k1),(a2,n2,k2),(a3,n3,k3)) zeroV:=⟨hSr4,hCd.went hst (Nat.le_of_lt hpU),Nat.lt_of_lt_of_le hpU hst.size,hWn.trans hst,pP.went hst (by omega),pR.went hst (by omega),pX.went hst (by omega),hO.went hst (by omega),HS⟩
 have hv10:v≤10:=by omega
 clear hSr hCd hpU hWn pP pR pX hO HS hSr4 hst hv
 go_wp2_with fail
 go_loopw [6] (fun si wr=>∃ (i TT:Nat) (t:S4) (m:V4),si=.int .i64 i∧i≤10∧TT≤T+3+(10 - i)*3∧OnWay w wr p (.slice a n cap) a n cap TT X5 aP capP t m) (fun si _=>(intOf si).toNat)
 case atStart=>exact ⟨v,T+3,_,_,rfl,hv10,by omega,hWay⟩
 case round =>
  clear hWay hv10
  obtain ⟨i,TT,t,m,rfl,hi,hTT,hSr,hCd,hpU,hWn,pP,pR,pX,hO,HS⟩:=hrel
  have hpX:p≠X5:=by omega
  have hX5:X5≠w.heap.size+1:=by omega
  obtain ⟨⟨a0,n0,k0⟩,⟨a1,n1,k1⟩,⟨a2,n2,k2⟩,⟨a3,n3,k3⟩⟩:=t
  unfold vmC at pX
  simp only at pX
  by_cases hi0:i=0
  ·subst hi0
   have HE:Hid (∀ (W:World),wr.grownBy W (some (w.heap.size+1))→(∃ (t:S4) (m:V4),Ending.returned (.agg #[.slice a0 n0 k0,.slice a1 n1 k1,.slice a2 n2 k2,.slice a3 n3 k3])=.returned t.val∧OwnV W w.heap.size t m∧shapeOk m=true)∧Src W p (.slice a n cap) (T+40)∧Went p w W):=fun W g=>⟨⟨_,m,rfl,(hO.kept9 g pR (by decide)).lowerB (by omega),HS.out⟩,(hSr.grown g (fun k e=>by cases e;omega)).mono (by omega),hWn.grown g (fun k e=>by cases e;omega)⟩
   clear hSr hCd hWn hO HS pP
   go_wp2_with (first | refine wpList_load_blk rfl 33 _ rfl X5 rfl pX _ Tryz.underlying33 rfl (by kernel_rfl) ?_ | refine wpList_store_blk rfl 33 _ _ rfl (w.heap.size+1) [.slice a0 n0 k0,.slice a1 n1 k1,.slice a2 n2 k2,.slice a3 n3 k3] rfl rfl pR (by kernel_rfl) rfl rfl ?_)
   intro w9 pR9 g9
   have hE:=HE.out _ g9
   clear g9 HE pX pR
   go_wp2_with fail
   refine bodyPost_ret (results_blk1 Tryz.results107 _ _ _ _ _ _ rfl pR9.out Tryz.underlying33 rfl (by kernel_rfl)) rfl ?_
   exact hE
  ·have hip:(0:Int)<(i:Int):=by omega
   obtain ⟨_,cs,hR⟩:=(hPr wr hWn).rowsAt HOK.out
   have hM:=hO.mem (shape_fits9 HS.out).1
   have kE:=l03Enabled_is aP 3 capP rows _ m cs wr rfl hR hM HOK.out HS.out
   have uA:S4.val ((a0,n0,k0),(a1,n1,k1),(a2,n2,k2),(a3,n3,k3))=.agg #[.slice a0 n0 k0,.slice a1 n1 k1,.slice a2 n2 k2,.slice a3 n3 k3]:=rfl
   rw [uA] at kE
   have cP:=pP.cell 0
   have cX0:=pX.cell 0
   have cX1:=pX.cell 1
   have cX2:=pX.cell 2
   have cX3:=pX.cell 3
   simp only [List.getElem?_cons_zero,List.getElem?_cons_succ] at cP cX0 cX1 cX2 cX3
   go_wp2_with fail
   refine kE.mono ?_
   rintro e w5 ⟨⟨⟨la,ll,lc⟩,rfl,hLi⟩,hb⟩
   clear kE cP cX0 cX1 cX2 cX3 hM hR
   have hLw:w.heap.size+2≤wr.heap.size:=by
    have h1:=pR.lt
    have h2:=pX.lt
    omega
   replace hSr:=hSr.belowD hb
   replace hCd:=hCd.below (hb.mono (Nat.le_of_lt hpU))
   replace hWn:=hWn.trans (Went.of_below hb)
   replace pP:=pP.below hb
   replace pR:=pR.below hb
   replace pX:=pX.below hb
   replace hO:=hO.below hb
   have hl:(enabM rows m 3).length=ll:=hLi.ints.1
   have hLi2:OwnI w5 (w.heap.size+2) (la,ll,lc) (enabM rows m 3):=own_lower hLi hLw
   replace hpU:p<w5.heap.size:=Nat.lt_of_lt_of_le hpU hb.size
   clear hb hLi hLw
   by_cases hL0:ll=0
   ·subst hL0
    have HE:Hid (∀ (W:World),w5.grownBy W (some (w.heap.size+1))→(∃ (t:S4) (m:V4),Ending.returned (.agg #[.slice a0 n0 k0,.slice a1 n1 k1,.slice a2 n2 k2,.slice a3 n3 k3])=.returned t.val∧OwnV W w.heap.size t m∧shapeOk m=true)∧Src W p (.slice a n cap) (T+40)∧Went p w W):=fun W g=>⟨⟨_,m,rfl,(hO.kept9 g pR (by decide)).lowerB (by omega),HS.out⟩,(hSr.grown g (fun k e=>by cases e;omega)).mono (by omega),hWn.grown g (fun k e=>by cases e;omega)⟩
    clear hSr hCd hWn hO HS pP hLi2 hl
    go_wp2_with (first | refine wpList_load_blk rfl 33 _ rfl X5 rfl pX _ Tryz.underlying33 rfl (by kernel_rfl) ?_ | refine wpList_store_blk rfl 33 _ _ rfl (w.heap.size+1) [.slice a0 n0 k0,.slice a1 n1 k1,.slice a2 n2 k2,.slice a3 n3 k3] rfl rfl pR (by kernel_rfl) rfl rfl ?_)
    intro w9 pR9 g9
    have hE:=HE.out _ g9
    clear g9 HE pX pR
    go_wp2_with fail
    refine bodyPost_ret (results_blk1 Tryz.results107 _ _ _ _ _ _ rfl pR9.out Tryz.underlying33 rfl (by kernel_rfl)) rfl ?_
    exact hE
   ·have hLz:((ll:Int) == 0)=false:=by simp;omega
    have hL3:ll≤3:=by rw [← hl];exact enabM_len rows m 3
    obtain ⟨lg,lc2,hsl,_,_⟩:=hLi2.some9 hl (by omega)
    cases hsl
    have hat:∀ j,j<ll→∃ k:Nat,(enabM rows m 3).getD j 0=k∧k<3∧canM rows m k=true:=fun j hj=>enab_at (by omega)
    have HAT:Hid (∀ j,j<ll→∃ k:Nat,(enabM rows m 3).getD j 0=k∧k<3∧canM rows m k=true):=hat
    clear hat hl
    obtain ⟨es,hes⟩:∃ es,es=enabM rows m 3:=⟨_,rfl⟩
    rw [← hes] at HAT hLi2
    clear hes
    go_wp2_with fail
    refine wp_region_held_drew (S:=(fun w'=>w'.cell? ⟨w.heap.size,0,none⟩=some (.slice aP 3 capP)∧w'.cell? ⟨X5,0,none⟩=some (.slice a0 n0 k0)∧w'.cell? ⟨X5,1,none⟩=some (.slice a1 n1 k1)∧w'.cell? ⟨X5,2,none⟩=some (.slice a2 n2 k2)∧w'.cell? ⟨X5,3,none⟩=some (.slice a3 n3 k3)∧∀ j,j<ll→w'.cell? ⟨lg,j,none⟩=some (.int .i64 (es.getD j 0)))) (by kernel_rfl) (cellsD pP pX hLi2) (fun hS0=>?_)
    refine tkm 0 25 (.agg #[.slice aP 3 capP]) ?_
    refine tkm 1 26 (.agg #[.slice a0 n0 k0,.slice a1 n1 k1,.slice a2 n2 k2,.slice a3 n3 k3]) ?_
    refine tkm 2 27 (.slice (some ⟨lg,0,none⟩) ll lc) ?_
    refine tkm 3 28 (.pointer (some ⟨p,0,none⟩)) ?_
    refine tkm 4 29 (.slice (some ⟨lg,0,none⟩) ll lc) ?_
    refine tkm 5 30 (.int .i64 (ll:Int)) ?_
    refine wpAnyH_ready (rs:=[6,13]) (by kernel_rfl) (by simp) ?_
    refine AllReadyH.cons (o:=⟨some 31,_,_,_,_,_⟩) rfl (fun K hK=>?_) (AllReadyH.cons (o:=⟨some 8,_,_,_,_,_⟩) rfl (fun K hK=>?_) AllReadyH.nil)
    ·go_simp
     refine (next_any p TT a n cap (ll:Int) w5.drew (show Src w5.drew p _ _ from hSr) (show Code w5.drew p _ _ _ from hCd) (by omega) (by omega)).mono ?_
     rintro e U1 ⟨⟨v,hv,rfl⟩,hSn,hst⟩
     replace hst:Went p w5 U1:=⟨hst.os,hst.tape,hst.output,hst.size,hst.block⟩
     have hvl:v<ll:=by omega
     have hvi:(v:Int)<(ll:Int):=by omega
     obtain ⟨kk,hkk,hk3,hcan⟩:=HAT.out v hvl
     have HCN:Hid (canM rows m kk=true):=hcan
     clear hcan hv
     replace hSr:=hSn
     replace hCd:=hCd.went hst (Nat.le_of_lt hpU)
     replace hpU:p<U1.heap.size:=Nat.lt_of_lt_of_le hpU hst.size
     replace hWn:=hWn.trans hst
     replace pP:=pP.went hst (by omega)
     replace pR:=pR.went hst (by omega)
     replace pX:=pX.went hst (by omega)
     replace hO:=hO.went hst (by omega)
     replace hLi2:=hLi2.went hst (by omega)
     go_wp2_with fail
     refine hK.out _ _ (cellsD pP pX hLi2) (fun hS1=>?_)
     clear hK hst hSn
     try simp only [Act.put,tka,tkb,tkc]
     refine tkm 7 32 (.pointer (some ⟨lg,v,none⟩)) ?_
     refine tkx 8 33 (.int .i64 (kk:Int)) ?_ ?_
     ·(intro w' hSw;have hcv:=hSw.2.2.2.2.2 v hvl;rw [hkk] at hcv;clear hSw;(try dsimp only at hSw);go_simp;try rfl)
     simp only [Act.put,tka,tkb,tkc]
     refine wpAnyH_ready (rs:=[9,13]) (by kernel_rfl) (by simp) ?_
     refine AllReadyH.cons (o:=⟨some 34,_,_,_,_,_⟩) rfl (fun K hK=>?_) (AllReadyH.cons (o:=⟨some 8,_,_,_,_,_⟩) rfl (fun K hK=>?_) AllReadyH.nil)
     ·obtain ⟨_,cs,hR⟩:=(hPr U1 hWn).rowsAt HOK.out
      have hM:=hO.mem (shape_fits9 HS.out).1
      have hsh:=shape_step HOK.out HS.out hk3 (can_parts HCN.out).1
      have kT:=l03Step_is (cap:=capP) rfl hR hM HOK.out HS.out hk3 (can_parts HCN.out).1
      have uB:S4.val ((a0,n0,k0),(a1,n1,k1),(a2,n2,k2),(a3,n3,k3))=.agg #[.slice a0 n0 k0,.slice a1 n1 k1,.slice a2 n2 k2,.slice a3 n3 k3]:=rfl
      rw [uB] at kT
      generalize (stepM m (insM rows m kk) kk).1=mm at *
      generalize (stepM m (insM rows m kk) kk).2=fd at *
      have HS2:Hid (shapeOk mm=true):=hsh
      clear hM hR uB hsh
      go_simp
      refine kT.mono ?_
      rintro e U2 ⟨⟨⟨⟨b0,m0,q0⟩,⟨b1,m1,q1⟩,⟨b2,m2,q2⟩,⟨b3,m3,q3⟩⟩,rfl,hO2⟩,hb⟩
      have uC:S4.val ((b0,m0,q0),(b1,m1,q1),(b2,m2,q2),(b3,m3,q3))=.agg #[.slice b0 m0 q0,.slice b1 m1 q1,.slice b2 m2 q2,.slice b3 m3 q3]:=rfl
      rw [uC]
      clear uC kT
      replace hO2:=hO2.lowerB (B':=w.heap.size+2) (by have h1:=pR.lt;have h2:=pX.lt;omega)
      replace hSr:=hSr.belowD hb
      replace hCd:=hCd.below (hb.mono (Nat.le_of_lt hpU))
      replace hWn:=hWn.trans (Went.of_below hb)
      replace pP:=pP.below hb
      replace pR:=pR.below hb
      replace pX:=pX.below hb
      replace hO:=hO.below hb
      replace hLi2:=hLi2.below hb
      replace hpU:p<U2.heap.size:=Nat.lt_of_lt_of_le hpU hb.size
      go_wp2_with fail
      refine hK.out _ _ (cellsD pP pX hLi2) (fun hS2=>?_)
      clear hK hb
      try simp only [Act.put,tka,tkb,tkc]
      refine tkm 10 24 (.tuple #[.agg #[.slice b0 m0 q0,.slice b1 m1 q1,.slice b2 m2 q2,.slice b3 m3 q3],.int .i64 fd]) ?_
      refine tkm 11 35 (.agg #[.slice b0 m0 q0,.slice b1 m1 q1,.slice b2 m2 q2,.slice b3 m3 q3]) ?_
      refine tkm 12 36 (.int .i64 fd) ?_
      refine tkr 13 8 (fun K hK=>?_)
      have hal:Below U2.heap.size U2 (U2.alloc (.cells #[.slice none 0 0,.slice none 0 0,.slice none 0 0,.slice none 0 0] 33)):=by go_grown
      have pG:Blk (U2.alloc (.cells #[.slice none 0 0,.slice none 0 0,.slice none 0 0,.slice none 0 0] 33)) U2.heap.size 33 [.slice none 0 0,.slice none 0 0,.slice none 0 0,.slice none 0 0]:=Blk.new U2 33 [.slice none 0 0,.slice none 0 0,.slice none 0 0,.slice none 0 0]
      have hGw:w.heap.size+1<U2.heap.size:=pR.lt
      have hG5:X5<U2.heap.size:=pX.lt
      replace hSr:=hSr.belowD hal
      replace hCd:=hCd.below (hal.mono (Nat.le_of_lt hpU))
      replace hWn:=hWn.trans (Went.of_below hal)
      replace pP:=pP.below hal
      replace pR:=pR.below hal
      replace pX:=pX.below hal
      replace hO:=hO.below hal
      replace hLi2:=hLi2.below hal
      replace hO2:=hO2.below hal
      replace hpU:p<(U2.alloc (.cells #[.slice none 0 0,.slice none 0 0,.slice none 0 0,.slice none 0 0] 33)).heap.size:=Nat.lt_of_lt_of_le hpU hal.size
      go_simp
      refine hK.out _ _ (cellsD pP pX hLi2) (fun hS3=>?_)
      clear hK hal
      generalize hG8:U2.heap.size=G8 at *
      generalize (U2.alloc (.cells #[.slice none 0 0,.slice none 0 0,.slice none 0 0,.slice none 0 0] 33))=U3 at *
      try simp only [Act.put,tka,tkb,tkc]
      refine tkz 14 (fun K hK=>?_)
      refine step_store_blkD rfl 33 _ _ rfl G8 [.slice b0 m0 q0,.slice b1 m1 q1,.slice b2 m2 q2,.slice b3 m3 q3] rfl rfl pG (by kernel_rfl) rfl rfl ?_
      intro U4 pG2 g2
      replace hSr:=hSr.grown g2 (fun k e=>by cases e;omega)
      replace hCd:=hCd.below (grown_below g2 (show p≤G8 by omega) (Nat.le_of_lt hpU))
      replace hpU:p<U4.heap.size:=Nat.lt_of_lt_of_le hpU g2.size
      replace hWn:=hWn.grown g2 (fun k e=>by cases e;omega)
      replace hLi2:OwnI U4 (w.heap.size+2) (some ⟨lg,0,none⟩,ll,lc) es:=hLi2.kept9 g2 pG (by decide)
      replace hO:=hO.kept9 g2 pG (by decide)
      replace hO2:=hO2.kept9 g2 pG (by decide)
      replace pP:=pP.kept g2 (fun e=>by cases e;omega)
      replace pR:=pR.kept g2 (fun e=>by cases e;omega)
      replace pX:=pX.kept g2 (fun e=>by cases e;omega)
      replace pG:=pG2.out
      clear pG2 g2
      refine hK.out _ _ (cellsD pP pX hLi2) (fun hS4=>?_)
      clear hK
      try simp only [Act.put,tka,tkb,tkc]
      refine tkm 15 9 (.int .i64 fd) ?_
      refine wpAnyH_done (by kernel_rfl) ?_ _
      clear hLi2 hO HAT HS
      go_wp2_with (first | refine wpList_load_blk rfl 33 _ rfl G8 rfl pG _ Tryz.underlying33 rfl (by kernel_rfl) ?_ | refine wpList_store_blk rfl 33 _ _ rfl X5 [.slice b0 m0 q0,.slice b1 m1 q1,.slice b2 m2 q2,.slice b3 m3 q3] rfl rfl pX (by kernel_rfl) rfl rfl ?_)
      intro w9 pX9 g9
      have hne2:X5≠w.heap.size:=blk_ne pX pP (by decide)
      have hWay:OnWay w w9 p (.slice a n cap) a n cap (TT+3) X5 aP capP ((b0,m0,q0),(b1,m1,q1),(b2,m2,q2),(b3,m3,q3)) mm:=⟨hSr.grown g9 (fun k e=>by cases e;omega),hCd.below (grown_below g9 (show p≤X5 by omega) (Nat.le_of_lt hpU)),Nat.lt_of_lt_of_le hpU g9.size,hWn.grown g9 (fun k e=>by cases e;omega),pP.kept g9 (fun e=>hne2 (by cases e;rfl)),pR.kept g9 (fun e=>hX5 (by cases e;rfl)),pX9.out,hO2.kept9 g9 pX (by decide),HS2⟩
      clear g9 pX9 pG hO2 HS2 hSr hCd hpU hWn pP pR pX hne2
      go_wp2
      go_roundw
      case rel=>exact ⟨i - 1,TT+3,_,mm,by go_num,by omega,by omega,hWay⟩
      case measure=>simp [intOf];omega
     ·have hal:Below U1.heap.size U1 (U1.alloc (.cells #[.slice none 0 0,.slice none 0 0,.slice none 0 0,.slice none 0 0] 33)):=by go_grown
      have pG:Blk (U1.alloc (.cells #[.slice none 0 0,.slice none 0 0,.slice none 0 0,.slice none 0 0] 33)) U1.heap.size 33 [.slice none 0 0,.slice none 0 0,.slice none 0 0,.slice none 0 0]:=Blk.new U1 33 [.slice none 0 0,.slice none 0 0,.slice none 0 0,.slice none 0 0]
      have hGw:w.heap.size+1<U1.heap.size:=pR.lt
      have hG5:X5<U1.heap.size:=pX.lt
      replace hSr:=hSr.belowD hal
      replace hCd:=hCd.below (hal.mono (Nat.le_of_lt hpU))
      replace hWn:=hWn.trans (Went.of_below hal)
      replace pP:=pP.below hal
      replace pR:=pR.below hal
      replace pX:=pX.below hal
      replace hO:=hO.below hal
      replace hLi2:=hLi2.below hal
      replace hpU:p<(U1.alloc (.cells #[.slice none 0 0,.slice none 0 0,.slice none 0 0,.slice none 0 0] 33)).heap.size:=Nat.lt_of_lt_of_le hpU hal.size
      go_simp
      refine hK.out _ _ (cellsD pP pX hLi2) (fun hS5=>?_)
      clear hK hal
      generalize hG8:U1.heap.size=G8 at *
      generalize (U1.alloc (.cells #[.slice none 0 0,.slice none 0 0,.slice none 0 0,.slice none 0 0] 33))=U5 at *
      try simp only [Act.put,tka,tkb,tkc]
      refine tkr 9 34 (fun K hK=>?_)
      obtain ⟨_,cs,hR⟩:=(hPr U5 hWn).rowsAt HOK.out
      have hM:=hO.mem (shape_fits9 HS.out).1
      have hsh:=shape_step HOK.out HS.out hk3 (can_parts HCN.out).1
      have kT:=l03Step_is (cap:=capP) rfl hR hM HOK.out HS.out hk3 (can_parts HCN.out).1
      have uB:S4.val ((a0,n0,k0),(a1,n1,k1),(a2,n2,k2),(a3,n3,k3))=.agg #[.slice a0 n0 k0,.slice a1 n1 k1,.slice a2 n2 k2,.slice a3 n3 k3]:=rfl
      rw [uB] at kT
      generalize (stepM m (insM rows m kk) kk).1=mm at *
      generalize (stepM m (insM rows m kk) kk).2=fd at *
      have HS2:Hid (shapeOk mm=true):=hsh
      clear hM hR uB hsh
      go_simp
      refine kT.mono ?_
      rintro e U6 ⟨⟨⟨⟨b0,m0,q0⟩,⟨b1,m1,q1⟩,⟨b2,m2,q2⟩,⟨b3,m3,q3⟩⟩,rfl,hO2⟩,hb⟩
      have uC:S4.val ((b0,m0,q0),(b1,m1,q1),(b2,m2,q2),(b3,m3,q3))=.agg #[.slice b0 m0 q0,.slice b1 m1 q1,.slice b2 m2 q2,.slice b3 m3 q3]:=rfl
      rw [uC]
      clear uC kT
      replace hO2:=hO2.lowerB (B':=w.heap.size+2) (by have h1:=pR.lt;have h2:=pX.lt;omega)
      replace hSr:=hSr.belowD hb
      replace hCd:=hCd.below (hb.mono (Nat.le_of_lt hpU))
      replace hWn:=hWn.trans (Went.of_below hb)
      replace pP:=pP.below hb
      replace pR:=pR.below hb
      replace pX:=pX.below hb
      replace pG:=pG.below hb
      replace hO:=hO.below hb
      replace hLi2:=hLi2.below hb
      replace hpU:p<U6.heap.size:=Nat.lt_of_lt_of_le hpU hb.size
      go_wp2_with fail
      refine hK.out _ _ (cellsD pP pX hLi2) (fun hS6=>?_)
      clear hK hb
      try simp only [Act.put,tka,tkb,tkc]
      refine tkm 10 24 (.tuple #[.agg #[.slice b0 m0 q0,.slice b1 m1 q1,.slice b2 m2 q2,.slice b3 m3 q3],.int .i64 fd]) ?_
      refine tkm 11 35 (.agg #[.slice b0 m0 q0,.slice b1 m1 q1,.slice b2 m2 q2,.slice b3 m3 q3]) ?_
      refine tkm 12 36 (.int .i64 fd) ?_
      refine tkz 14 (fun K hK=>?_)
      refine step_store_blkD rfl 33 _ _ rfl G8 [.slice b0 m0 q0,.slice b1 m1 q1,.slice b2 m2 q2,.slice b3 m3 q3] rfl rfl pG (by kernel_rfl) rfl rfl ?_
      intro U7 pG2 g2
      replace hSr:=hSr.grown g2 (fun k e=>by cases e;omega)
      replace hCd:=hCd.below (grown_below g2 (show p≤G8 by omega) (Nat.le_of_lt hpU))
      replace hpU:p<U7.heap.size:=Nat.lt_of_lt_of_le hpU g2.size
      replace hWn:=hWn.grown g2 (fun k e=>by cases e;omega)
      replace hLi2:OwnI U7 (w.heap.size+2) (some ⟨lg,0,none⟩,ll,lc) es:=hLi2.kept9 g2 pG (by decide)
      replace hO:=hO.kept9 g2 pG (by decide)
      replace hO2:=hO2.kept9 g2 pG (by decide)
      replace pP:=pP.kept g2 (fun e=>by cases e;omega)
      replace pR:=pR.kept g2 (fun e=>by cases e;omega)
      replace pX:=pX.kept g2 (fun e=>by cases e;omega)
      replace pG:=pG2.out
      clear pG2 g2
      refine hK.out _ _ (cellsD pP pX hLi2) (fun hS7=>?_)
      clear hK
      try simp only [Act.put,tka,tkb,tkc]
      refine tkm 15 9 (.int .i64 fd) ?_
      refine wpAnyH_done (by kernel_rfl) ?_ _
      clear hLi2 hO HAT HS
      go_wp2_with (first | refine wpList_load_blk rfl 33 _ rfl G8 rfl pG _ Tryz.underlying33 rfl (by kernel_rfl) ?_ | refine wpList_store_blk rfl 33 _ _ rfl X5 [.slice b0 m0 q0,.slice b1 m1 q1,.slice b2 m2 q2,.slice b3 m3 q3] rfl rfl pX (by kernel_rfl) rfl rfl ?_)
      intro w9 pX9 g9
      have hne2:X5≠w.heap.size:=blk_ne pX pP (by decide)
      have hWay:OnWay w w9 p (.slice a n cap) a n cap (TT+3) X5 aP capP ((b0,m0,q0),(b1,m1,q1),(b2,m2,q2),(b3,m3,q3)) mm:=⟨hSr.grown g9 (fun k e=>by cases e;omega),hCd.below (grown_below g9 (show p≤X5 by omega) (Nat.le_of_lt hpU)),Nat.lt_of_lt_of_le hpU g9.size,hWn.grown g9 (fun k e=>by cases e;omega),pP.kept g9 (fun e=>hne2 (by cases e;rfl)),pR.kept g9 (fun e=>hX5 (by cases e;rfl)),pX9.out,hO2.kept9 g9 pX (by decide),HS2⟩
      clear g9 pX9 pG hO2 HS2 hSr hCd hpU hWn pP pR pX hne2
      go_wp2
      go_roundw
      case rel=>exact ⟨i - 1,TT+3,_,mm,by go_num,by omega,by omega,hWay⟩
      case measure=>simp [intOf];omega
    ·have hal:Below w5.heap.size w5 (w5.alloc (.cells #[.slice none 0 0,.slice none 0 0,.slice none 0 0,.slice none 0 0] 33)).drew:=by go_grown
     have pG:Blk (w5.alloc (.cells #[.slice none 0 0,.slice none 0 0,.slice none 0 0,.slice none 0 0] 33)).drew w5.heap.size 33 [.slice none 0 0,.slice none 0 0,.slice none 0 0,.slice none 0 0]:=Blk.new w5 33 [.slice none 0 0,.slice none 0 0,.slice none 0 0,.slice none 0 0]
     have hGw:w.heap.size+1<w5.heap.size:=pR.lt
     have hG5:X5<w5.heap.size:=pX.lt
     replace hSr:=hSr.belowD hal
     replace hCd:=hCd.below (hal.mono (Nat.le_of_lt hpU))
     replace hWn:=hWn.trans (Went.of_below hal)
     replace pP:=pP.below hal
     replace pR:=pR.below hal
     replace pX:=pX.below hal
     replace hO:=hO.below hal
     replace hLi2:=hLi2.below hal
     replace hpU:p<(w5.alloc (.cells #[.slice none 0 0,.slice none 0 0,.slice none 0 0,.slice none 0 0] 33)).drew.heap.size:=Nat.lt_of_lt_of_le hpU hal.size
     go_simp
     refine hK.out _ _ (cellsD pP pX hLi2) (fun hS8=>?_)
     clear hK hal
     generalize hG8:w5.heap.size=G8 at *
     generalize (w5.alloc (.cells #[.slice none 0 0,.slice none 0 0,.slice none 0 0,.slice none 0 0] 33)).drew=U8 at *
     try simp only [Act.put,tka,tkb,tkc]
     refine tkr 6 31 (fun K hK=>?_)
     go_simp
     refine (next_any p TT a n cap (ll:Int) U8 (show Src U8 p _ _ from hSr) (show Code U8 p _ _ _ from hCd) (by omega) (by omega)).mono ?_
     rintro e U9 ⟨⟨v,hv,rfl⟩,hSn,hst⟩
     replace hst:Went p U8 U9:=⟨hst.os,hst.tape,hst.output,hst.size,hst.block⟩
     have hvl:v<ll:=by omega
     have hvi:(v:Int)<(ll:Int):=by omega
     obtain ⟨kk,hkk,hk3,hcan⟩:=HAT.out v hvl
     have HCN:Hid (canM rows m kk=true):=hcan
     clear hcan hv
     replace hSr:=hSn
     replace hCd:=hCd.went hst (Nat.le_of_lt hpU)
     replace hpU:p<U9.heap.size:=Nat.lt_of_lt_of_le hpU hst.size
     replace hWn:=hWn.trans hst
     replace pP:=pP.went hst (by omega)
     replace pR:=pR.went hst (by omega)
     replace pX:=pX.went hst (by omega)
     replace pG:=pG.went hst (by omega)
     replace hO:=hO.went hst (by omega)
     replace hLi2:=hLi2.went hst (by omega)
     go_wp2_with fail
     refine hK.out _ _ (cellsD pP pX hLi2) (fun hS9=>?_)
     clear hK hst hSn
     try simp only [Act.put,tka,tkb,tkc]
     refine tkm 7 32 (.pointer (some ⟨lg,v,none⟩)) ?_
     refine tkx 8 33 (.int .i64 (kk:Int)) ?_ ?_
     ·(intro w' hSw;have hcv:=hSw.2.2.2.2.2 v hvl;rw [hkk] at hcv;clear hSw;(try dsimp only at hSw);go_simp;try rfl)
     simp only [Act.put,tka,tkb,tkc]
     refine tkr 9 34 (fun K hK=>?_)
     obtain ⟨_,cs,hR⟩:=(hPr U9 hWn).rowsAt HOK.out
     have hM:=hO.mem (shape_fits9 HS.out).1
     have hsh:=shape_step HOK.out HS.out hk3 (can_parts HCN.out).1
     have kT:=l03Step_is (cap:=capP) rfl hR hM HOK.out HS.out hk3 (can_parts HCN.out).1
     have uB:S4.val ((a0,n0,k0),(a1,n1,k1),(a2,n2,k2),(a3,n3,k3))=.agg #[.slice a0 n0 k0,.slice a1 n1 k1,.slice a2 n2 k2,.slice a3 n3 k3]:=rfl
     rw [uB] at kT
     generalize (stepM m (insM rows m kk) kk).1=mm at *
     generalize (stepM m (insM rows m kk) kk).2=fd at *
     have HS2:Hid (shapeOk mm=true):=hsh
     clear hM hR uB hsh
     go_simp
     refine kT.mono ?_
     rintro e U10 ⟨⟨⟨⟨b0,m0,q0⟩,⟨b1,m1,q1⟩,⟨b2,m2,q2⟩,⟨b3,m3,q3⟩⟩,rfl,hO2⟩,hb⟩
     have uC:S4.val ((b0,m0,q0),(b1,m1,q1),(b2,m2,q2),(b3,m3,q3))=.agg #[.slice b0 m0 q0,.slice b1 m1 q1,.slice b2 m2 q2,.slice b3 m3 q3]:=rfl
     rw [uC]
     clear uC kT
     replace hO2:=hO2.lowerB (B':=w.heap.size+2) (by have h1:=pR.lt;have h2:=pX.lt;omega)
     replace hSr:=hSr.belowD hb
     replace hCd:=hCd.below (hb.mono (Nat.le_of_lt hpU))
     replace hWn:=hWn.trans (Went.of_below hb)
     replace pP:=pP.below hb
     replace pR:=pR.below hb
     replace pX:=pX.below hb
     replace pG:=pG.below hb
     replace hO:=hO.below hb
     replace hLi2:=hLi2.below hb
     replace hpU:p<U10.heap.size:=Nat.lt_of_lt_of_le hpU hb.size
     go_wp2_with fail
     refine hK.out _ _ (cellsD pP pX hLi2) (fun hS10=>?_)
     clear hK hb
     try simp only [Act.put,tka,tkb,tkc]
     refine tkm 10 24 (.tuple #[.agg #[.slice b0 m0 q0,.slice b1 m1 q1,.slice b2 m2 q2,.slice b3 m3 q3],.int .i64 fd]) ?_
     refine tkm 11 35 (.agg #[.slice b0 m0 q0,.slice b1 m1 q1,.slice b2 m2 q2,.slice b3 m3 q3]) ?_
     refine tkm 12 36 (.int .i64 fd) ?_
     refine tkz 14 (fun K hK=>?_)
     refine step_store_blkD rfl 33 _ _ rfl G8 [.slice b0 m0 q0,.slice b1 m1 q1,.slice b2 m2 q2,.slice b3 m3 q3] rfl rfl pG (by kernel_rfl) rfl rfl ?_
     intro U11 pG2 g2
     replace hSr:=hSr.grown g2 (fun k e=>by cases e;omega)
     replace hCd:=hCd.below (grown_below g2 (show p≤G8 by omega) (Nat.le_of_lt hpU))
     replace hpU:p<U11.heap.size:=Nat.lt_of_lt_of_le hpU g2.size
     replace hWn:=hWn.grown g2 (fun k e=>by cases e;omega)
     replace hLi2:OwnI U11 (w.heap.size+2) (some ⟨lg,0,none⟩,ll,lc) es:=hLi2.kept9 g2 pG (by decide)
     replace hO:=hO.kept9 g2 pG (by decide)
     replace hO2:=hO2.kept9 g2 pG (by decide)
     replace pP:=pP.kept g2 (fun e=>by cases e;omega)
     replace pR:=pR.kept g2 (fun e=>by cases e;omega)
     replace pX:=pX.kept g2 (fun e=>by cases e;omega)
     replace pG:=pG2.out
     clear pG2 g2
     refine hK.out _ _ (cellsD pP pX hLi2) (fun hS11=>?_)
     clear hK
     try simp only [Act.put,tka,tkb,tkc]
     refine tkm 15 9 (.int .i64 fd) ?_
     refine wpAnyH_done (by kernel_rfl) ?_ _
     clear hLi2 hO HAT HS
     go_wp2_with (first | refine wpList_load_blk rfl 33 _ rfl G8 rfl pG _ Tryz.underlying33 rfl (by kernel_rfl) ?_ | refine wpList_store_blk rfl 33 _ _ rfl X5 [.slice b0 m0 q0,.slice b1 m1 q1,.slice b2 m2 q2,.slice b3 m3 q3] rfl rfl pX (by kernel_rfl) rfl rfl ?_)
     intro w9 pX9 g9
     have hne2:X5≠w.heap.size:=blk_ne pX pP (by decide)
     have hWay:OnWay w w9 p (.slice a n cap) a n cap (TT+3) X5 aP capP ((b0,m0,q0),(b1,m1,q1),(b2,m2,q2),(b3,m3,q3)) mm:=⟨hSr.grown g9 (fun k e=>by cases e;omega),hCd.below (grown_below g9 (show p≤X5 by omega) (Nat.le_of_lt hpU)),Nat.lt_of_lt_of_le hpU g9.size,hWn.grown g9 (fun k e=>by cases e;omega),pP.kept g9 (fun e=>hne2 (by cases e;rfl)),pR.kept g9 (fun e=>hX5 (by cases e;rfl)),pX9.out,hO2.kept9 g9 pX (by decide),HS2⟩
     clear g9 pX9 pG hO2 HS2 hSr hCd hpU hWn pP pR pX hne2
     go_wp2
     go_roundw
     case rel=>exact ⟨i - 1,TT+3,_,mm,by go_num,by omega,by omega,hWay⟩
     case measure=>simp [intOf];omega
theorem vm_any (p T:Nat) (a:Option Addr) (n cap:Nat) (aP:Option Addr) (capP:Nat) (rows:List (List I3)) (w:World) (hS:Src w p (.slice a n cap) T) (hC:Code w p a n cap) (hT:T≤800000) (hok:progOk rows=true)
  (hPr:∀ W,Below p w W→Codes W aP 3 capP rows) :
  Calls Tryz.prog 107 #[.pointer (some ⟨p,0,none⟩),.agg #[.slice aP 3 capP]] w fun e w'=>(∃ (t:S4) (m:V4),e=.returned t.val∧OwnV w' w.heap.size t m∧shapeOk m=true)∧Below p w w':=
 (vm_go p T a n cap aP capP rows w hS hC hT hok (fun W hW=>hPr W (hW.below (Nat.le_of_lt hS.lt)))).mono (fun e w' h=>⟨h.1,h.2.2.below (Nat.le_of_lt hS.lt)⟩)


def ltB (a b:I3):Bool:=decide (a.1<b.1∨(a.1=b.1∧(a.2.1<b.2.1∨(a.2.1=b.2.1∧a.2.2<b.2.2))))
theorem ltB_iff {a b:I3}:ltB a b=true↔a.1<b.1∨(a.1=b.1∧(a.2.1<b.2.1∨(a.2.1=b.2.1∧a.2.2<b.2.2))):=by simp [ltB]
theorem ltB_trans {a b c:I3} (h:ltB a b=true) (k:ltB b c=true):ltB a c=true:=by
 rw [ltB_iff] at *;omega
theorem ltB_total {a b:I3} (h:ltB a b=false) (k:ltB b a=false):a=b:=by
 obtain ⟨a0,a1,a2⟩:=a
 obtain ⟨b0,b1,b2⟩:=b
 have h':¬ ltB (a0,a1,a2) (b0,b1,b2)=true:=by simp [h]
 have k':¬ ltB (b0,b1,b2) (a0,a1,a2)=true:=by simp [k]
 rw [ltB_iff] at h' k'
 simp only at h' k'
 have e0:a0=b0:=by omega
 have e1:a1=b1:=by omega
 have e2:a2=b2:=by omega
 rw [e0,e1,e2]

def Rises (l:List I3):Prop:=l.Pairwise fun a b=>ltB a b=true
def putB:List I3→I3→List I3
 | [],b=>[b]
 | x::xs,b=>if ltB x b then x::putB xs b else if x=b then x::xs else b::x::xs
theorem mem_putB {x b:I3}:∀ {l:List I3},x ∈ putB l b↔x ∈ l∨x=b
 | []=>by simp [putB]
 | y::l=>by
  have ih:=mem_putB (x:=x) (b:=b) (l:=l)
  unfold putB
  split
  ·simp [ih,or_assoc]
  ·split
   ·rename_i h
    subst h
    simp
    intro e
    exact .inl e
   ·simp
    constructor
    ·rintro (h | h | h)
     ·exact .inr h
     ·exact .inl (.inl h)
     ·exact .inl (.inr h)
    ·rintro ((h | h) | h)
     ·exact .inr (.inl h)
     ·exact .inr (.inr h)
     ·exact .inl h
theorem Rises.put {b:I3}:∀ {l:List I3},Rises l→Rises (putB l b)
 | [],_=>by simp [putB,Rises]
 | y::l,h=>by
  have h':=List.pairwise_cons.1 h
  unfold putB
  split
  ·rename_i hy
   refine List.pairwise_cons.2 ⟨fun z hz=>?_,Rises.put h'.2⟩
   rcases mem_putB.1 hz with e | e
   ·exact h'.1 z e
   ·rw [e];exact hy
  ·rename_i hy
   split
   ·exact h
   ·rename_i hne
    have hby:ltB b y=true:=by
     cases k:ltB b y
     ·exact absurd (ltB_total (by simpa using hy) k) hne
     ·rfl
    refine List.pairwise_cons.2 ⟨fun z hz=>?_,h⟩
    rcases List.mem_cons.1 hz with e | e
    ·rw [e];exact hby
    ·exact ltB_trans hby (h'.1 z e)
end Go.Proofs.YtifoggpohlegmaaGreatDoor
