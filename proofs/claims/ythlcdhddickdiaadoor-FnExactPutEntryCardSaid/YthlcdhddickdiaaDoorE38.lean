/-
  Joined: PteW.
-/
import Derived.Deep.Cut
import Derived.Test.YthlcdhddickdiaaDoorE17
import Derived.Test.YthlcdhddickdiaaDoorE18

namespace Go.Proofs.YthlcdhddickdiaaDoor
set_option maxRecDepth 100000
set_option maxHeartbeats 16000000
open Go.RowKit
set_option linter.unusedVariables false
set_option linter.unusedSimpArgs false

theorem OwnE.keptB {w w':World} {B X t:Nat} {vb vf:Value} {e:E3} {cs:List Value} (h:OwnE w B vb vf e) (hg:w.grownBy w' (some X)) (hX:Blk w X t cs) (h1:93≠t) (h2:3≠t):OwnE w' B vb vf e:=⟨h.1.kept hg (.inr (own_ne_blk9' h.1 hX h1)),h.2.kept hg (.inr (own_ne_blk9' h.2 hX h2))⟩
theorem OwnM.keptB {w w':World} {B X t:Nat} {v:Value} {es:List E3} {cs:List Value} (h:OwnM w B v es) (hg:w.grownBy w' (some X)) (hX:Blk w X t cs) (h0:39≠t) (h1:93≠t) (h2:3≠t):OwnM w' B v es:=by
 obtain ⟨cs',r,q,h3⟩:=h
 exact ⟨cs',r.kept hg (.inr (own_ne_blk9' r hX h0)),fun t ht=>⟨(q t ht).1,(q t ht).2.keptB hg hX h1 h2⟩,h3⟩
theorem step_store_box {P:Program} {ops:Array Oper} {o:Oper} {a:Act} {w:World} {K:Act→World→Prop} {Q:Exit→Act→World→Prop} {E:Prop} (hgd:o.guard=none) (ty:TypeId) (x y:Operand) (ho:o.op=.store ty x y) (g:Nat) (vs:List Value) (hx:a.eval x=.pointer (some ⟨g,0,none⟩)) (hy:a.eval y=.agg vs.toArray) {t:Nat} {cs:List Value} (hB:Blk w g t cs)
  (hi:(P.info? ty).map (·.size)=some vs.length) (hl:cs.length=vs.length) (h1:vs.all (·.oneCell')=true)
  (h:∀ w',Hid (Blk w' g t vs)→w.grownBy w' (some g)→K (a.put o.dst undef) w'):if Region.wanted o (yielded ops a.tmps)=true then Oper.wp P o a w K Q else E:=by
 have hw:Region.wanted o (yielded ops a.tmps)=true:=by simp [Region.wanted,hgd]
 rw [if_pos hw]
 exact wp_store_row ty x y ho g vs.toArray hx hy t cs.toArray hB (by simpa using hi) (by simpa using hl) (by simpa using h1) (h _ (blk_setRow vs hB) (grown_setRow _ _ _))
def CutM14 (w0:World) (re:List E3) (e0:Int) (sA sB:Value) (W:World):Prop:=∃ (g:Nat) (a:Option Addr) (c:Nat),sA=.pointer (some ⟨g,0,none⟩)∧sB=.int .i64 e0∧Blk W g 33 [.slice a re.length c]∧OwnM W 0 (.slice a re.length c) re∧Below w0.heap.size w0 W
theorem CutM14.mk9 {w0 W:World} {re:List E3} {e0:Int} {sA sB:Value} (g:Nat) (a:Option Addr) (c:Nat) (h8:sA=.pointer (some ⟨g,0,none⟩)) (h9:sB=.int .i64 e0) (hB:Blk W g 33 [.slice a re.length c]) (ho:OwnM W 0 (.slice a re.length c) re) (hb:Below w0.heap.size w0 W):CutM14 w0 re e0 sA sB W:=⟨g,a,c,h8,h9,hB,ho,hb⟩

theorem fnExactPutEntry_of (a0:Option Addr) (n0 c0:Nat) (z0:List E3) (e1:E3) (s1:Sl2) (re:List E3) (hre:∀ e ∈ re,e.fits) (hrc:∀ j,j≤re.length→cntM re j≤10000000) (hrl:∀ t,t<re.length→(re.getD t e3d).2.1.length≤1048576∧(re.getD t e3d).2.2.length≤1048576) (e0:Int) (w:World) (h0:Ents w a0 n0 c0 z0) (h1:Emem w s1 e1) (hTb0:VmShape w)
  (kS:∀ (a0:Option Addr) (n0 c0:Nat) (s1:Sl2) (w:World),Ents w a0 n0 c0 z0→(a0=none→c0=0)→Emem w s1 e1→Calls Tryd.prog 8 #[.agg #[.slice a0 n0 c0],entV e1.1 s1] w fun e w'=>(∃ v,e=.returned (.tuple #[.agg #[v],.int .i64 e0])∧OwnM w' w.heap.size v re)∧Below w.heap.size w w')
  (kI:∀ (a0:Option Addr) (n0 c0:Nat) (s1:Sl2) (w:World),Ents w a0 n0 c0 z0→(a0=none→c0=0)→Emem w s1 e1→VmShape w→Calls Tryd.prog 11 #[.agg #[.slice a0 n0 c0],entV e1.1 s1] w fun e w'=>(∃ v,e=.returned (.tuple #[.agg #[v],.int .i64 e0])∧OwnM w' w.heap.size v re)∧Below w.heap.size w w') :
  Calls Tryd.prog 3 #[.agg #[.slice a0 n0 c0],entV e1.1 s1] w fun e w'=>e=.returned (.bool true)∧Below w.heap.size w w':=by
 have f0:=h0.fits
 have f1:=h1.fits
 have hne:(e0 != e0)=false:=by simp
 have kZ:=fun left w h=>szMemo_any a0 n0 c0 z0 left w h
 have kT:=fun w h l1 l2=>toMemo_own a0 n0 c0 z0 w h l1 l2
 have kZ1:=fun left w h=>szEntry_any e1 s1 left w h
 have kT1:=fun w h l1 l2=>toEntry_own e1 s1 w h l1 l2
 have kE1:=fun s s' w h h'=>eqEntry_same e1 s s' w h h'
 have kM1:=fun B T s k w hk l1 l2 hB h=>markEntry_own B T s k e1 w hk l1 l2 hB h
 have hc1:e1.2.1.length≤costE e1∧e1.2.2.length≤costE e1:=by unfold costE;omega
 have hc0:n0≤n0+costT z0∧∀ t,t<n0→(z0.getD t e3d).2.1.length≤n0+costT z0∧(z0.getD t e3d).2.2.length≤n0+costT z0:=⟨by omega,fun t ht=>by
  have:=cost_at (es:=z0) (t:=t) (by rw [h0.1];exact ht)
  unfold costE at this
  omega⟩
 have hcm0:=cntM_cost z0
 have hl0:=h0.1
 generalize hK1:e1.1=k1 at *
 clear hK1
 obtain ⟨⟨b1a,b1n,b1c⟩,⟨f1a,f1n,f1c⟩⟩:=s1
 unfold entV at kZ1 kT1 kE1 kM1 kS kI ⊢
 simp only at kZ1 kT1 ⊢
 have bw:Below w.heap.size w ((w.alloc (.cells #[.slice a0 n0 c0] 24)).alloc (.cells #[.string k1,.slice b1a b1n b1c,.slice f1a f1n f1c] 28)):=by go_grown
 have p0:Blk ((w.alloc (.cells #[.slice a0 n0 c0] 24)).alloc (.cells #[.string k1,.slice b1a b1n b1c,.slice f1a f1n f1c] 28)) w.heap.size 24 [.slice a0 n0 c0]:=blkOld _ (blkAt _ _ _ rfl)
 have p1:Blk ((w.alloc (.cells #[.slice a0 n0 c0] 24)).alloc (.cells #[.string k1,.slice b1a b1n b1c,.slice f1a f1n f1c] 28)) (w.heap.size+1) 28 [.string k1,.slice b1a b1n b1c,.slice f1a f1n f1c]:=blkAt _ _ _ (by simp)
 go_enter Tryd.func3,Tryd.ntmps3
 go_wp2_with fail
 generalize ((w.alloc (.cells #[.slice a0 n0 c0] 24)).alloc (.cells #[.string k1,.slice b1a b1n b1c,.slice f1a f1n f1c] 28))=U0 at *
 refine (kZ 1048576 _ (h0.below bw) (by omega) (by omega)).mono ?_
 rintro e wz ⟨⟨r0,rfl,hz⟩,hb⟩
 replace bw:=bel8 bw hb
 replace p0:=p0.below hb
 replace p1:=p1.below hb
 clear hb kZ
 rcases hz with rfl | ⟨hr0,hr1⟩
 ·go_wp2
  go_ret
  exact ⟨rfl,bw⟩
 have hn0:decide (r0<0)=false:=by simp;omega
 have hle0:r0≤1048576:=by omega
 replace kT:=fun w h=>kT w h (by omega) (fun t ht=>by have:=hc0.2 t ht;omega)
 have hcj:∀ j,j≤z0.length→cntM z0 j≤10000000:=fun j hj=>by have:=cntM_mono z0 j;omega
 have HRL:Hid (∀ t,t<z0.length→(z0.getD t e3d).2.1.length≤1048576∧(z0.getD t e3d).2.2.length≤1048576):=fun t ht=>by have:=hc0.2 t (by omega);omega
 clear hr1 hc0 hcm0
 have q0:=p1.cell 0
 have q1:=p1.cell 1
 have q2:=p1.cell 2
 simp only [List.getElem?_cons_zero,List.getElem?_cons_succ] at q0 q1 q2
 go_wp2_with fail
 clear q0 q1 q2
 refine (kZ1 r0 _ (h1.below bw) (by omega) (by omega)).mono ?_
 rintro e wz1 ⟨⟨r1,rfl,hz⟩,hb⟩
 replace bw:=bel8 bw hb
 replace p0:=p0.below hb
 replace p1:=p1.below hb
 clear hb kZ1
 rcases hz with rfl | ⟨hr1,hr2⟩
 ·go_wp2
  go_ret
  exact ⟨rfl,bw⟩
 have hn1:decide (r1<0)=false:=by simp;omega
 have l1:e1.2.1.length≤1048576:=by omega
 have l2:e1.2.2.length≤1048576:=by omega
 replace kT1:=fun w h=>kT1 w h l1 l2
 clear hr2 hc1 hr0 hr1 hle0
 have g0:=p0.cell 0
 have g1:=p1.cell 0
 have g2:=p1.cell 1
 have g3:=p1.cell 2
 simp only [List.getElem?_cons_zero,List.getElem?_cons_succ] at g0 g1 g2 g3
 go_wp2_with fail
 go_cut [6,7] from 17 (fun sA sB W=>CutM14 wz1 re e0 sA sB W)
 case first =>
  have bd:Below w.heap.size w wz1.drew:=bel_trans bw (by go_grown)
  refine wp_region_held_drew (S:=(fun w'=>w'.cell? ⟨w.heap.size,0,none⟩=some (.slice a0 n0 c0)∧w'.cell? ⟨w.heap.size+1,0,none⟩=some (.string k1)∧w'.cell? ⟨w.heap.size+1,1,none⟩=some (.slice b1a b1n b1c)∧w'.cell? ⟨w.heap.size+1,2,none⟩=some (.slice f1a f1n f1c))) (by kernel_rfl) ⟨g0,g1,g2,g3⟩ (fun hS0=>?_)
  have bq:Below wz1.drew.heap.size wz1.drew wz1.drew:=Below.refl _ _
  refine tkm 0 28 (.agg #[.slice a0 n0 c0]) ?_
  refine tkm 2 30 (.agg #[.string k1,.slice b1a b1n b1c,.slice f1a f1n f1c]) ?_
  refine wpAnyH_ready (rs:=[1,8]) (by kernel_rfl) (by simp) ?_
  refine AllReadyH.cons (o:=⟨some 29,_,_,_,_,_⟩) rfl (fun K hK=>?_) (AllReadyH.cons (o:=⟨some 6,_,_,_,_,_⟩) rfl (fun K hK=>?_) AllReadyH.nil)
  ·skip
   go_simp
   refine (kT _ (h0.below (bel_trans bd bq))).mono ?_
   rintro e wqa ⟨rfl,hO0,hq⟩
   have hc:=hO0.ents f0
   clear hO0
   replace bq:=bel_trans bq hq
   clear hq
   go_wp2_with fail
   refine hK.out _ _ ?_ (fun hSc=>?_)
   ·exact ⟨cells_kept bq _ _ hS0.1,cells_kept bq _ _ hS0.2.1,cells_kept bq _ _ hS0.2.2.1,cells_kept bq _ _ hS0.2.2.2⟩
   clear hK
   refine wpAnyH_ready (rs:=[3,8]) (by kernel_rfl) (by simp) ?_
   refine AllReadyH.cons (o:=⟨some 31,_,_,_,_,_⟩) rfl (fun K hK=>?_) (AllReadyH.cons (o:=⟨some 6,_,_,_,_,_⟩) rfl (fun K hK=>?_) AllReadyH.nil)
   ·skip
    go_simp
    refine (kT1 _ (h1.below (bel_trans bd bq))).mono ?_
    rintro e wqb ⟨⟨t1,rfl,hO1⟩,hq⟩
    have hv:=hO1.mem f1
    replace hc:=hc.below hq
    clear hO1
    replace bq:=bel_trans bq hq
    clear hq
    go_wp2_with fail
    refine hK.out _ _ ?_ (fun hSc=>?_)
    ·exact ⟨cells_kept bq _ _ hS0.1,cells_kept bq _ _ hS0.2.1,cells_kept bq _ _ hS0.2.2.1,cells_kept bq _ _ hS0.2.2.2⟩
    clear hK
    refine wpAnyH_ready (rs:=[4,8]) (by kernel_rfl) (by simp) ?_
    refine AllReadyH.cons (o:=⟨some 32,_,_,_,_,_⟩) rfl (fun K hK=>?_) (AllReadyH.cons (o:=⟨some 6,_,_,_,_,_⟩) rfl (fun K hK=>?_) AllReadyH.nil)
    ·skip
     go_simp
     refine (kS _ _ _ t1 _ hc (fun h=>by cases h) hv).mono ?_
     rintro e wqc ⟨⟨v,rfl,hO⟩,hq⟩
     obtain ⟨sa,sc,rfl⟩:=hO.slice9
     clear hc hv
     have HO:Hid (OwnM wqc 0 (.slice sa re.length sc) re):=OwnM.lower hO (Nat.zero_le _)
     clear hO
     replace bq:=bel_trans bq hq
     clear hq
     go_wp2_with fail
     refine hK.out _ _ ?_ (fun hSc=>?_)
     ·exact ⟨cells_kept bq _ _ hS0.1,cells_kept bq _ _ hS0.2.1,cells_kept bq _ _ hS0.2.2.1,cells_kept bq _ _ hS0.2.2.2⟩
     clear hK
     refine tkm 5 27 (.tuple #[.agg #[.slice sa re.length sc],.int .i64 e0]) ?_
     refine tkm 6 33 (.agg #[.slice sa re.length sc]) ?_
     refine tkm 7 34 (.int .i64 e0) ?_
     refine tkr 8 6 (fun K hK=>?_)
     go_simp
     have hal:Below wqc.heap.size wqc (wqc.alloc (.cells #[.slice none 0 0] 33)):=by go_grown
     have hgx:wz1.drew.heap.size≤wqc.heap.size:=bq.size
     have pX:=Blk.new wqc 33 [.slice none 0 0]
     replace bq:=bel_trans bq hal
     refine hK.out _ (wqc.alloc (.cells #[.slice none 0 0] 33)) ?_ (fun hSa=>?_)
     ·exact ⟨cells_kept bq _ _ hS0.1,cells_kept bq _ _ hS0.2.1,cells_kept bq _ _ hS0.2.2.1,cells_kept bq _ _ hS0.2.2.2⟩
     clear hK
     try simp only [Act.put,tka,tkb,tkc]
     generalize (wqc.alloc (.cells #[.slice none 0 0] 33))=wa at *
     replace HO:Hid (OwnM wa 0 (.slice sa re.length sc) re):=HO.out.below hal
     clear hal hSa
     refine tkz 9 (fun K hK=>?_)
     refine step_store_box rfl 33 _ _ rfl (wqc.heap.size) [.slice sa re.length sc] rfl rfl pX (by kernel_rfl) rfl rfl ?_
     intro w8 pX9 g9
     replace bq:=bq.grown g9 bq.size (fun x hx=>by cases hx;exact hgx)
     have hO9:=HO.out.keptB g9 pX (by decide) (by decide) (by decide)
     refine hK.out _ _ ?_ (fun hSb=>?_)
     ·exact ⟨cells_kept bq _ _ hS0.1,cells_kept bq _ _ hS0.2.1,cells_kept bq _ _ hS0.2.2.1,cells_kept bq _ _ hS0.2.2.2⟩
     clear hK
     try simp only [Act.put,tka,tkb,tkc]
     refine tkm 10 7 (.int .i64 e0) ?_
     refine wpAnyH_done (by kernel_rfl) ?_ _
     go_wp2_with fail
     go_meet
     case rel=>exact CutM14.mk9 (wqc.heap.size) sa sc rfl rfl pX9.out hO9 (bel_trans (by go_grown) bq)
    ·skip
     go_simp
     have hal:Below wqb.heap.size wqb (wqb.alloc (.cells #[.slice none 0 0] 33)):=by go_grown
     have hgx:wz1.drew.heap.size≤wqb.heap.size:=bq.size
     have pX:=Blk.new wqb 33 [.slice none 0 0]
     replace bq:=bel_trans bq hal
     refine hK.out _ (wqb.alloc (.cells #[.slice none 0 0] 33)) ?_ (fun hSa=>?_)
     ·exact ⟨cells_kept bq _ _ hS0.1,cells_kept bq _ _ hS0.2.1,cells_kept bq _ _ hS0.2.2.1,cells_kept bq _ _ hS0.2.2.2⟩
     clear hK
     try simp only [Act.put,tka,tkb,tkc]
     generalize (wqb.alloc (.cells #[.slice none 0 0] 33))=wa at *
     replace hc:=hc.below hal
     replace hv:=hv.below hal
     clear hal hSa
     refine tkr 4 32 (fun K hK=>?_)
     go_simp
     refine (kS _ _ _ t1 _ hc (fun h=>by cases h) hv).mono ?_
     rintro e wqc ⟨⟨v,rfl,hO⟩,hq⟩
     obtain ⟨sa,sc,rfl⟩:=hO.slice9
     clear hc hv
     have HO:Hid (OwnM wqc 0 (.slice sa re.length sc) re):=OwnM.lower hO (Nat.zero_le _)
     clear hO
     replace pX:=pX.below hq
     replace bq:=bel_trans bq hq
     clear hq
     go_wp2_with fail
     refine hK.out _ _ ?_ (fun hSc=>?_)
     ·exact ⟨cells_kept bq _ _ hS0.1,cells_kept bq _ _ hS0.2.1,cells_kept bq _ _ hS0.2.2.1,cells_kept bq _ _ hS0.2.2.2⟩
     clear hK
     refine tkm 5 27 (.tuple #[.agg #[.slice sa re.length sc],.int .i64 e0]) ?_
     refine tkm 6 33 (.agg #[.slice sa re.length sc]) ?_
     refine tkm 7 34 (.int .i64 e0) ?_
     refine tkz 9 (fun K hK=>?_)
     refine step_store_box rfl 33 _ _ rfl (wqb.heap.size) [.slice sa re.length sc] rfl rfl pX (by kernel_rfl) rfl rfl ?_
     intro w8 pX9 g9
     replace bq:=bq.grown g9 bq.size (fun x hx=>by cases hx;exact hgx)
     have hO9:=HO.out.keptB g9 pX (by decide) (by decide) (by decide)
     refine hK.out _ _ ?_ (fun hSb=>?_)
     ·exact ⟨cells_kept bq _ _ hS0.1,cells_kept bq _ _ hS0.2.1,cells_kept bq _ _ hS0.2.2.1,cells_kept bq _ _ hS0.2.2.2⟩
     clear hK
     try simp only [Act.put,tka,tkb,tkc]
     refine tkm 10 7 (.int .i64 e0) ?_
     refine wpAnyH_done (by kernel_rfl) ?_ _
     go_wp2_with fail
     go_meet
     case rel=>exact CutM14.mk9 (wqb.heap.size) sa sc rfl rfl pX9.out hO9 (bel_trans (by go_grown) bq)
   ·skip
    go_simp
    have hal:Below wqa.heap.size wqa (wqa.alloc (.cells #[.slice none 0 0] 33)):=by go_grown
    have hgx:wz1.drew.heap.size≤wqa.heap.size:=bq.size
    have pX:=Blk.new wqa 33 [.slice none 0 0]
    replace bq:=bel_trans bq hal
    refine hK.out _ (wqa.alloc (.cells #[.slice none 0 0] 33)) ?_ (fun hSa=>?_)
    ·exact ⟨cells_kept bq _ _ hS0.1,cells_kept bq _ _ hS0.2.1,cells_kept bq _ _ hS0.2.2.1,cells_kept bq _ _ hS0.2.2.2⟩
    clear hK
    try simp only [Act.put,tka,tkb,tkc]
    generalize (wqa.alloc (.cells #[.slice none 0 0] 33))=wa at *
    replace hc:=hc.below hal
    clear hal hSa
    refine tkr 3 31 (fun K hK=>?_)
    go_simp
    refine (kT1 _ (h1.below (bel_trans bd bq))).mono ?_
    rintro e wqb ⟨⟨t1,rfl,hO1⟩,hq⟩
    have hv:=hO1.mem f1
    replace hc:=hc.below hq
    clear hO1
    replace pX:=pX.below hq
    replace bq:=bel_trans bq hq
    clear hq
    go_wp2_with fail
    refine hK.out _ _ ?_ (fun hSc=>?_)
    ·exact ⟨cells_kept bq _ _ hS0.1,cells_kept bq _ _ hS0.2.1,cells_kept bq _ _ hS0.2.2.1,cells_kept bq _ _ hS0.2.2.2⟩
    clear hK
    refine tkr 4 32 (fun K hK=>?_)
    go_simp
    refine (kS _ _ _ t1 _ hc (fun h=>by cases h) hv).mono ?_
    rintro e wqc ⟨⟨v,rfl,hO⟩,hq⟩
    obtain ⟨sa,sc,rfl⟩:=hO.slice9
    clear hc hv
    have HO:Hid (OwnM wqc 0 (.slice sa re.length sc) re):=OwnM.lower hO (Nat.zero_le _)
    clear hO
    replace pX:=pX.below hq
    replace bq:=bel_trans bq hq
    clear hq
    go_wp2_with fail
    refine hK.out _ _ ?_ (fun hSc=>?_)
    ·exact ⟨cells_kept bq _ _ hS0.1,cells_kept bq _ _ hS0.2.1,cells_kept bq _ _ hS0.2.2.1,cells_kept bq _ _ hS0.2.2.2⟩
    clear hK
    refine tkm 5 27 (.tuple #[.agg #[.slice sa re.length sc],.int .i64 e0]) ?_
    refine tkm 6 33 (.agg #[.slice sa re.length sc]) ?_
    refine tkm 7 34 (.int .i64 e0) ?_
    refine tkz 9 (fun K hK=>?_)
    refine step_store_box rfl 33 _ _ rfl (wqa.heap.size) [.slice sa re.length sc] rfl rfl pX (by kernel_rfl) rfl rfl ?_
    intro w8 pX9 g9
    replace bq:=bq.grown g9 bq.size (fun x hx=>by cases hx;exact hgx)
    have hO9:=HO.out.keptB g9 pX (by decide) (by decide) (by decide)
    refine hK.out _ _ ?_ (fun hSb=>?_)
    ·exact ⟨cells_kept bq _ _ hS0.1,cells_kept bq _ _ hS0.2.1,cells_kept bq _ _ hS0.2.2.1,cells_kept bq _ _ hS0.2.2.2⟩
    clear hK
    try simp only [Act.put,tka,tkb,tkc]
    refine tkm 10 7 (.int .i64 e0) ?_
    refine wpAnyH_done (by kernel_rfl) ?_ _
    go_wp2_with fail
    go_meet
    case rel=>exact CutM14.mk9 (wqa.heap.size) sa sc rfl rfl pX9.out hO9 (bel_trans (by go_grown) bq)
  ·skip
   go_simp
   have hal:Below wz1.drew.heap.size wz1.drew (wz1.drew.alloc (.cells #[.slice none 0 0] 33)):=by go_grown
   have hgx:wz1.drew.heap.size≤wz1.drew.heap.size:=bq.size
   have pX:=Blk.new wz1.drew 33 [.slice none 0 0]
   replace bq:=bel_trans bq hal
   refine hK.out _ (wz1.drew.alloc (.cells #[.slice none 0 0] 33)) ?_ (fun hSa=>?_)
   ·exact ⟨cells_kept bq _ _ hS0.1,cells_kept bq _ _ hS0.2.1,cells_kept bq _ _ hS0.2.2.1,cells_kept bq _ _ hS0.2.2.2⟩
   clear hK
   try simp only [Act.put,tka,tkb,tkc]
   generalize (wz1.drew.alloc (.cells #[.slice none 0 0] 33))=wa at *
   clear hal hSa
   refine tkr 1 29 (fun K hK=>?_)
   go_simp
   refine (kT _ (h0.below (bel_trans bd bq))).mono ?_
   rintro e wqa ⟨rfl,hO0,hq⟩
   have hc:=hO0.ents f0
   clear hO0
   replace pX:=pX.below hq
   replace bq:=bel_trans bq hq
   clear hq
   go_wp2_with fail
   refine hK.out _ _ ?_ (fun hSc=>?_)
   ·exact ⟨cells_kept bq _ _ hS0.1,cells_kept bq _ _ hS0.2.1,cells_kept bq _ _ hS0.2.2.1,cells_kept bq _ _ hS0.2.2.2⟩
   clear hK
   refine tkr 3 31 (fun K hK=>?_)
   go_simp
   refine (kT1 _ (h1.below (bel_trans bd bq))).mono ?_
   rintro e wqb ⟨⟨t1,rfl,hO1⟩,hq⟩
   have hv:=hO1.mem f1
   replace hc:=hc.below hq
   clear hO1
   replace pX:=pX.below hq
   replace bq:=bel_trans bq hq
   clear hq
   go_wp2_with fail
   refine hK.out _ _ ?_ (fun hSc=>?_)
   ·exact ⟨cells_kept bq _ _ hS0.1,cells_kept bq _ _ hS0.2.1,cells_kept bq _ _ hS0.2.2.1,cells_kept bq _ _ hS0.2.2.2⟩
   clear hK
   refine tkr 4 32 (fun K hK=>?_)
   go_simp
   refine (kS _ _ _ t1 _ hc (fun h=>by cases h) hv).mono ?_
   rintro e wqc ⟨⟨v,rfl,hO⟩,hq⟩
   obtain ⟨sa,sc,rfl⟩:=hO.slice9
   clear hc hv
   have HO:Hid (OwnM wqc 0 (.slice sa re.length sc) re):=OwnM.lower hO (Nat.zero_le _)
   clear hO
   replace pX:=pX.below hq
   replace bq:=bel_trans bq hq
   clear hq
   go_wp2_with fail
   refine hK.out _ _ ?_ (fun hSc=>?_)
   ·exact ⟨cells_kept bq _ _ hS0.1,cells_kept bq _ _ hS0.2.1,cells_kept bq _ _ hS0.2.2.1,cells_kept bq _ _ hS0.2.2.2⟩
   clear hK
   refine tkm 5 27 (.tuple #[.agg #[.slice sa re.length sc],.int .i64 e0]) ?_
   refine tkm 6 33 (.agg #[.slice sa re.length sc]) ?_
   refine tkm 7 34 (.int .i64 e0) ?_
   refine tkz 9 (fun K hK=>?_)
   refine step_store_box rfl 33 _ _ rfl (wz1.drew.heap.size) [.slice sa re.length sc] rfl rfl pX (by kernel_rfl) rfl rfl ?_
   intro w8 pX9 g9
   replace bq:=bq.grown g9 bq.size (fun x hx=>by cases hx;exact hgx)
   have hO9:=HO.out.keptB g9 pX (by decide) (by decide) (by decide)
   refine hK.out _ _ ?_ (fun hSb=>?_)
   ·exact ⟨cells_kept bq _ _ hS0.1,cells_kept bq _ _ hS0.2.1,cells_kept bq _ _ hS0.2.2.1,cells_kept bq _ _ hS0.2.2.2⟩
   clear hK
   try simp only [Act.put,tka,tkb,tkc]
   refine tkm 10 7 (.int .i64 e0) ?_
   refine wpAnyH_done (by kernel_rfl) ?_ _
   go_wp2_with fail
   go_meet
   case rel=>exact CutM14.mk9 (wz1.drew.heap.size) sa sc rfl rfl pX9.out hO9 (bel_trans (by go_grown) bq)
 obtain ⟨TS,sa,sc,rfl,rfl,pS,hO,hbr⟩:=hcut
 rename World=>ws
 clear g0 g1 g2 g3 kS
 replace bw:=bel8 bw hbr
 replace p0:=p0.below hbr
 replace p1:=p1.below hbr
 clear hbr
 have hS:=hO.top9
 clear hO
 have hTS:TS<ws.heap.size:=pS.lt
 have cc0:=p0.cell 0
 simp only [List.getElem?_cons_zero,List.getElem?_cons_succ] at cc0
 go_wp2_with fail
 clear cc0
 refine (kT _ (h0.below bw)).mono ?_
 rintro e wx ⟨rfl,hX,hb⟩
 have hgw:w.heap.size+1<ws.heap.size+3:=by have:=p1.lt;omega
 have hgS:TS<ws.heap.size+3:=by omega
 have hgT:ws.heap.size≤ws.heap.size+3:=by omega
 generalize ws.heap.size+3=gx at *
 obtain ⟨tS,htS⟩:∃ t,t=ws.heap.size:=⟨_,rfl⟩
 rw [← htS] at hS hgT
 have hXt:=hX.top9
 have hbx:Below wx.heap.size wx (wx.alloc (.cells #[.slice (some ⟨gx,0,none⟩) n0 n0] 33)):=by go_grown
 have pX:Blk (wx.alloc (.cells #[.slice (some ⟨gx,0,none⟩) n0 n0] 33)) wx.heap.size 33 [.slice (some ⟨gx,0,none⟩) n0 n0]:=blkAt _ _ _ rfl
 have hxle:gx≤wx.heap.size:=by
  obtain ⟨cs9,hc9,_⟩:=hX
  have:=(hc9.lt gx rfl).2
  omega
 replace hXt:=hXt.below hbx
 have hbb:Below ws.heap.size ws (wx.alloc (.cells #[.slice (some ⟨gx,0,none⟩) n0 n0] 33)):=bel8 hb hbx
 clear hX hTS
 replace bw:=bel8 bw hbb
 replace p0:=p0.below hbb
 replace p1:=p1.below hbb
 replace pS:=pS.below hbb
 replace hS:=hS.below hbb
 clear hb hbx hbb
 have cc0:=p1.cell 0
 have cc1:=p1.cell 1
 have cc2:=p1.cell 2
 simp only [List.getElem?_cons_zero,List.getElem?_cons_succ] at cc0 cc1 cc2
 go_wp2_with fail
 clear cc0 cc1 cc2
 generalize hWy:(wx.alloc (.cells #[.slice (some ⟨gx,0,none⟩) n0 n0] 33))=wy at *
 clear hWy
 generalize wx.heap.size=TX at *
 have hTX:TX<wy.heap.size:=pX.lt
 refine (kT1 _ (h1.below bw)).mono ?_
 rintro e wv ⟨⟨⟨⟨xa,xn,xc⟩,⟨ya,yn,yc⟩⟩,rfl,hO⟩,hb⟩
 simp only at hO ⊢
 have hYt:=hO.top9
 clear hO
 obtain ⟨gy,hgy⟩:∃ g,g=wy.heap.size:=⟨_,rfl⟩
 rw [← hgy] at hYt hTX
 have hgyv:gy≤wv.heap.size:=by have:=hb.size;omega
 have hbx:Below wv.heap.size wv (wv.alloc (.cells #[.string k1,.slice xa xn xc,.slice ya yn yc] 39)):=by go_grown
 have pY:Blk (wv.alloc (.cells #[.string k1,.slice xa xn xc,.slice ya yn yc] 39)) wv.heap.size 39 [.string k1,.slice xa xn xc,.slice ya yn yc]:=blkAt _ _ _ rfl
 replace hYt:=hYt.below hbx
 have hbb:=bel8 hb hbx
 clear hgy
 replace bw:=bel8 bw hbb
 replace p0:=p0.below hbb
 replace p1:=p1.below hbb
 replace pS:=pS.below hbb
 replace hS:=hS.below hbb
 replace pX:=pX.below hbb
 replace hXt:=hXt.below hbb
 clear hb hbx hbb
 have cc0:=pX.cell 0
 simp only [List.getElem?_cons_zero,List.getElem?_cons_succ] at cc0
 have cy0:=pY.cell 0
 have cy1:=pY.cell 1
 have cy2:=pY.cell 2
 simp only [List.getElem?_cons_zero,List.getElem?_cons_succ] at cy0 cy1 cy2
 go_wp2_with fail
 clear cc0 cy0 cy1 cy2
 generalize hWy:(wv.alloc (.cells #[.string k1,.slice xa xn xc,.slice ya yn yc] 39))=wi at *
 clear hWy
 generalize wv.heap.size=TY at *
 have hTY:TY<wi.heap.size:=pY.lt
 have hEx:=hXt.own.ents f0
 have hEy:=OwnE.mem (s:=((xa,xn,xc),(ya,yn,yc))) hYt.1 f1
 refine (kI _ _ _ ((xa,xn,xc),(ya,yn,yc)) _ hEx (fun h=>by cases h) hEy (hTb0.below bw)).mono ?_
 rintro e wg ⟨⟨v,rfl,hO⟩,hb⟩
 obtain ⟨ga,gc,rfl⟩:=hO.slice9
 have hT:=hO.top9
 have hbx:Below wg.heap.size wg (wg.alloc (.cells #[.slice ga re.length gc] 33)):=by go_grown
 have pG:Blk (wg.alloc (.cells #[.slice ga re.length gc] 33)) wg.heap.size 33 [.slice ga re.length gc]:=blkAt _ _ _ rfl
 have hG:=hT.below hbx
 have hbb:=bel8 hb hbx
 have hSzG:=hb.size
 clear hO hT
 replace bw:=bel8 bw hbb
 replace p0:=p0.below hbb
 replace p1:=p1.below hbb
 replace pS:=pS.below hbb
 replace hS:=hS.below hbb
 replace pX:=pX.below hbb
 replace hXt:=hXt.below hbb
 replace pY:=pY.below hbb
 replace hYt:=hYt.below hbb
 replace hEx:=hEx.below hbb
 replace hEy:=hEy.below hbb
 clear hb hbx hbb
 generalize hBi:wi.heap.size=Bi at *
 clear hBi
 have cg0:=pG.cell 0
 simp only [List.getElem?_cons_zero,List.getElem?_cons_succ] at cg0
 have cs0:=pS.cell 0
 simp only [List.getElem?_cons_zero,List.getElem?_cons_succ] at cs0
 go_wp2_with fail
 clear cg0 cs0
 generalize hWy:(wg.alloc (.cells #[.slice ga re.length gc] 33))=wh at *
 clear hWy
 generalize wg.heap.size=TG at *
 refine (eqMemo_same _ _ _ _ _ re _ (hG.own.ents hre) (hS.own.ents hre)).mono ?_
 rintro e wk ⟨rfl,hb⟩
 replace bw:=bel8 bw hb
 replace p0:=p0.below hb
 replace p1:=p1.below hb
 replace pS:=pS.below hb
 replace hS:=hS.below hb
 replace pX:=pX.below hb
 replace hXt:=hXt.below hb
 replace pY:=pY.below hb
 replace hYt:=hYt.below hb
 replace hEx:=hEx.below hb
 replace hEy:=hEy.below hb
 replace pG:=pG.below hb
 replace hG:=hG.below hb
 clear hb
 have cV0:=pX.cell 0
 simp only [List.getElem?_cons_zero,List.getElem?_cons_succ] at cV0
 have cC0:=p0.cell 0
 simp only [List.getElem?_cons_zero,List.getElem?_cons_succ] at cC0
 go_wp2_with fail
 have hP:Ents wk.drew a0 n0 c0 z0:=h0.below (bel8 bw (by go_grown))
 have hV:Ents wk.drew (some ⟨gx,0,none⟩) n0 n0 z0:=hEx.below (by go_grown)
 have c8:(fun w':World=>w'.cell? ⟨TX,0,none⟩=some (.slice (some ⟨gx,0,none⟩) n0 n0)∧w'.cell? ⟨w.heap.size,0,none⟩=some (.slice a0 n0 c0)) wk:=⟨cV0,cC0⟩
 clear cV0 cC0
 go_region_held3 (fun w'=>w'.cell? ⟨TX,0,none⟩=some (.slice (some ⟨gx,0,none⟩) n0 n0)∧w'.cell? ⟨w.heap.size,0,none⟩=some (.slice a0 n0 c0)) (first | (exact c8) | (exact c9) | (exact ⟨cells_kept hl _ _ c9.1,cells_kept hl _ _ c9.2⟩))
  (first | (go_at_call 9;refine (kT _ hP).mono ?_;rintro e wu ⟨rfl,hOk,hk⟩;have hD:=hV.below hk;have c9:=(show (fun w':World=>w'.cell? ⟨TX,0,none⟩=some (.slice (some ⟨gx,0,none⟩) n0 n0)∧w'.cell? ⟨w.heap.size,0,none⟩=some (.slice a0 n0 c0)) wu from ⟨cells_kept hk _ _ c8.1,cells_kept hk _ _ c8.2⟩)) | (go_at_call 12;refine (eqMemo_same _ _ _ _ _ z0 _ hD (hOk.ents f0)).mono ?_;rintro e wl ⟨rfl,hl⟩))
 have hbw:Below wk.heap.size wk wl:=bel8 (by go_grown) (bel8 hk hl)
 replace bw:=bel8 bw hbw
 replace p0:=p0.below hbw
 replace p1:=p1.below hbw
 replace pS:=pS.below hbw
 replace hS:=hS.below hbw
 replace pX:=pX.below hbw
 replace hXt:=hXt.below hbw
 replace pY:=pY.below hbw
 replace hYt:=hYt.below hbw
 replace hEx:=hEx.below hbw
 replace hEy:=hEy.below hbw
 replace pG:=pG.below hbw
 replace hG:=hG.below hbw
 clear hbw hk hl hD hOk c8 c9 hP hV hEx
 have cV0:=pY.cell 0
 have cV1:=pY.cell 1
 have cV2:=pY.cell 2
 simp only [List.getElem?_cons_zero,List.getElem?_cons_succ] at cV0 cV1 cV2
 have cC0:=p1.cell 0
 have cC1:=p1.cell 1
 have cC2:=p1.cell 2
 simp only [List.getElem?_cons_zero,List.getElem?_cons_succ] at cC0 cC1 cC2
 go_wp2_with fail
 have hP:Emem wl.drew ((b1a,b1n,b1c),(f1a,f1n,f1c)) e1:=h1.below (bel8 bw (by go_grown))
 have hV:Emem wl.drew ((xa,xn,xc),(ya,yn,yc)) e1:=hEy.below (by go_grown)
 have c8:(fun w':World=>w'.cell? ⟨TY,0,none⟩=some (.string k1)∧w'.cell? ⟨TY,1,none⟩=some (.slice xa xn xc)∧w'.cell? ⟨TY,2,none⟩=some (.slice ya yn yc)∧w'.cell? ⟨w.heap.size+1,0,none⟩=some (.string k1)∧w'.cell? ⟨w.heap.size+1,1,none⟩=some (.slice b1a b1n b1c)∧w'.cell? ⟨w.heap.size+1,2,none⟩=some (.slice f1a f1n f1c)) wl:=⟨cV0,cV1,cV2,cC0,cC1,cC2⟩
 clear cV0 cV1 cV2 cC0 cC1 cC2
 go_region_held3 (fun w'=>w'.cell? ⟨TY,0,none⟩=some (.string k1)∧w'.cell? ⟨TY,1,none⟩=some (.slice xa xn xc)∧w'.cell? ⟨TY,2,none⟩=some (.slice ya yn yc)∧w'.cell? ⟨w.heap.size+1,0,none⟩=some (.string k1)∧w'.cell? ⟨w.heap.size+1,1,none⟩=some (.slice b1a b1n b1c)∧w'.cell? ⟨w.heap.size+1,2,none⟩=some (.slice f1a f1n f1c)) (first | (exact c8) | (exact c9) | (exact ⟨cells_kept hl _ _ c9.1,cells_kept hl _ _ c9.2.1,cells_kept hl _ _ c9.2.2.1,cells_kept hl _ _ c9.2.2.2.1,cells_kept hl _ _ c9.2.2.2.2.1,cells_kept hl _ _ c9.2.2.2.2.2⟩))
  (first | (go_at_call 10;refine (kT1 _ hP).mono ?_;rintro e wu ⟨⟨su,rfl,hOk⟩,hk⟩;have hD:=hV.below hk;have c9:=(show (fun w':World=>w'.cell? ⟨TY,0,none⟩=some (.string k1)∧w'.cell? ⟨TY,1,none⟩=some (.slice xa xn xc)∧w'.cell? ⟨TY,2,none⟩=some (.slice ya yn yc)∧w'.cell? ⟨w.heap.size+1,0,none⟩=some (.string k1)∧w'.cell? ⟨w.heap.size+1,1,none⟩=some (.slice b1a b1n b1c)∧w'.cell? ⟨w.heap.size+1,2,none⟩=some (.slice f1a f1n f1c)) wu from ⟨cells_kept hk _ _ c8.1,cells_kept hk _ _ c8.2.1,cells_kept hk _ _ c8.2.2.1,cells_kept hk _ _ c8.2.2.2.1,cells_kept hk _ _ c8.2.2.2.2.1,cells_kept hk _ _ c8.2.2.2.2.2⟩)) | (go_at_call 13;refine (kE1 ((xa,xn,xc),(ya,yn,yc)) su _ hD (hOk.mem f1)).mono ?_;rintro e wl2 ⟨rfl,hl⟩))
 have hbw:Below wl.heap.size wl wl2:=bel8 (by go_grown) (bel8 hk hl)
 replace bw:=bel8 bw hbw
 replace p0:=p0.below hbw
 replace p1:=p1.below hbw
 replace pS:=pS.below hbw
 replace hS:=hS.below hbw
 replace pX:=pX.below hbw
 replace hXt:=hXt.below hbw
 replace pY:=pY.below hbw
 replace hYt:=hYt.below hbw
 replace hEy:=hEy.below hbw
 replace pG:=pG.below hbw
 replace hG:=hG.below hbw
 clear hbw hk hl hD hOk c8 c9 hP hV hEy
 have cc0:=pX.cell 0
 simp only [List.getElem?_cons_zero,List.getElem?_cons_succ] at cc0
 have hsz:gx≤wl2.heap.size:=by have:=pX.lt;omega
 go_wp2_with fail
 clear cc0
 refine (markMemo_own gx TX _ 1 z0 _ (by omega) (by omega) hcj HRL.out hsz hXt).mono ?_
 rintro e m0 ⟨rfl,_,hm⟩
 replace bw:Below w.heap.size w m0:=bw.trans (hm.1.mono (by omega))
 replace p0:=p0.belowB hm.1 (by omega)
 replace p1:=p1.belowB hm.1 (by omega)
 replace pS:=pS.belowB hm.1 hgS
 replace hS:=hS.under hm.1 hgT
 replace pY:=hm.blk pY (by omega)
 replace hYt:=hYt.mid hm (by omega)
 replace hG:=hG.mid hm (by omega)
 replace pG:=hm.blk pG (by omega)
 clear hXt pX hsz hm
 have hck:=hcj z0.length (Nat.le_refl _)
 obtain ⟨kc,hkc,hkb⟩:∃ kc:Nat,((1:Nat):Int)+(cntM z0 z0.length:Int)=(kc:Int)∧kc≤10000001:=⟨1+cntM z0 z0.length,by omega,by omega⟩
 rw [hkc]
 clear hck hcj HRL hkc
 have cc0:=pY.cell 0
 have cc1:=pY.cell 1
 have cc2:=pY.cell 2
 simp only [List.getElem?_cons_zero,List.getElem?_cons_succ] at cc0 cc1 cc2
 have hsz:gy≤m0.heap.size:=by have:=pY.lt;omega
 go_wp2_with fail
 clear cc0 cc1 cc2
 refine (kM1 gy TY ((xa,xn,xc),(ya,yn,yc)) kc _ (by omega) l1 l2 hsz hYt).mono ?_
 rintro e m1 ⟨rfl,_,hm⟩
 replace bw:Below w.heap.size w m1:=bw.trans (hm.1.mono (by omega))
 replace p0:=p0.belowB hm.1 (by omega)
 replace p1:=p1.belowB hm.1 (by omega)
 replace pS:=pS.belowB hm.1 (by omega)
 replace hS:=hS.under hm.1 (by omega)
 replace hG:=hG.mid hm (by omega)
 replace pG:=hm.blk pG (by omega)
 clear hYt pY hsz hm
 have hkk:decide ((kc:Int)+e1.2.1.length*3+e1.2.2.length<0)=false:=by simp;omega
 have cg0:=pG.cell 0
 simp only [List.getElem?_cons_zero,List.getElem?_cons_succ] at cg0
 have cs0:=pS.cell 0
 simp only [List.getElem?_cons_zero,List.getElem?_cons_succ] at cs0
 go_wp2_with fail
 clear cg0 cs0
 refine (eqMemo_same _ _ _ _ _ re _ (hG.own.ents hre) (hS.own.ents hre)).mono ?_
 rintro e m2 ⟨rfl,hb⟩
 replace bw:=bel8 bw hb
 replace p0:=p0.below hb
 replace p1:=p1.below hb
 replace pS:=pS.below hb
 replace hS:=hS.below hb
 replace pG:=pG.below hb
 replace hG:=hG.below hb
 clear hb hkk
 have cg0:=pG.cell 0
 simp only [List.getElem?_cons_zero,List.getElem?_cons_succ] at cg0
 have hsz:Bi≤m2.heap.size:=by have:=pG.lt;omega
 go_wp2_with fail
 clear cg0
 refine (markMemo_own Bi TG _ 1 re _ (by omega) (by omega) hrc hrl hsz hG).mono ?_
 rintro e m3 ⟨rfl,hH,hm⟩
 replace bw:Below w.heap.size w m3:=bw.trans (hm.1.mono (by omega))
 replace p0:=p0.belowB hm.1 (by omega)
 replace p1:=p1.belowB hm.1 (by omega)
 replace pS:=pS.belowB hm.1 (by omega)
 replace hS:=hS.under hm.1 (by omega)
 replace pG:=hm.blk pG (Nat.le_refl _)
 clear hm hG hsz
 have hcr:=hrc re.length (Nat.le_refl _)
 have hh0:decide (((1:Nat):Int)+cntM re re.length<0)=false:=by simp;omega
 have hhn:(((1:Nat):Int)+cntM re re.length != ((1:Nat):Int)+cntM re re.length)=false:=by simp
 have cg0:=pG.cell 0
 simp only [List.getElem?_cons_zero,List.getElem?_cons_succ] at cg0
 go_wp2_with fail
 clear cg0
 refine (heldMemo_own Bi _ 1 re _ (by omega) (by omega) hrc hrl hH.own).mono ?_
 rintro e m4 ⟨rfl,hb⟩
 replace bw:=bel8 bw hb
 replace p0:=p0.below hb
 replace p1:=p1.below hb
 replace pS:=pS.below hb
 replace hS:=hS.below hb
 replace pG:=pG.below hb
 replace hH:=hH.below hb
 clear hb
 have g0:=p0.cell 0
 have g1:=p1.cell 0
 have g2:=p1.cell 1
 have g3:=p1.cell 2
 simp only [List.getElem?_cons_zero,List.getElem?_cons_succ] at g0 g1 g2 g3
 go_wp2_with fail
 go_cut [15,16] from 17 (fun sA sB W=>CutM14 m4 re e0 sA sB W)
 case first =>
  have bd:Below w.heap.size w m4.drew:=bel_trans bw (by go_grown)
  refine wp_region_held_drew (S:=(fun w'=>w'.cell? ⟨w.heap.size,0,none⟩=some (.slice a0 n0 c0)∧w'.cell? ⟨w.heap.size+1,0,none⟩=some (.string k1)∧w'.cell? ⟨w.heap.size+1,1,none⟩=some (.slice b1a b1n b1c)∧w'.cell? ⟨w.heap.size+1,2,none⟩=some (.slice f1a f1n f1c))) (by kernel_rfl) ⟨g0,g1,g2,g3⟩ (fun hS0=>?_)
  have bq:Below m4.drew.heap.size m4.drew m4.drew:=Below.refl _ _
  refine tkm 0 95 (.agg #[.slice a0 n0 c0]) ?_
  refine tkm 2 97 (.agg #[.string k1,.slice b1a b1n b1c,.slice f1a f1n f1c]) ?_
  refine wpAnyH_ready (rs:=[1,8]) (by kernel_rfl) (by simp) ?_
  refine AllReadyH.cons (o:=⟨some 96,_,_,_,_,_⟩) rfl (fun K hK=>?_) (AllReadyH.cons (o:=⟨some 15,_,_,_,_,_⟩) rfl (fun K hK=>?_) AllReadyH.nil)
  ·skip
   go_simp
   refine (kT _ (h0.below (bel_trans bd bq))).mono ?_
   rintro e wqa ⟨rfl,hO0,hq⟩
   have hc:=hO0.ents f0
   clear hO0
   replace bq:=bel_trans bq hq
   clear hq
   go_wp2_with fail
   refine hK.out _ _ ?_ (fun hSc=>?_)
   ·exact ⟨cells_kept bq _ _ hS0.1,cells_kept bq _ _ hS0.2.1,cells_kept bq _ _ hS0.2.2.1,cells_kept bq _ _ hS0.2.2.2⟩
   clear hK
   refine wpAnyH_ready (rs:=[3,8]) (by kernel_rfl) (by simp) ?_
   refine AllReadyH.cons (o:=⟨some 98,_,_,_,_,_⟩) rfl (fun K hK=>?_) (AllReadyH.cons (o:=⟨some 15,_,_,_,_,_⟩) rfl (fun K hK=>?_) AllReadyH.nil)
   ·skip
    go_simp
    refine (kT1 _ (h1.below (bel_trans bd bq))).mono ?_
    rintro e wqb ⟨⟨t1,rfl,hO1⟩,hq⟩
    have hv:=hO1.mem f1
    replace hc:=hc.below hq
    clear hO1
    replace bq:=bel_trans bq hq
    clear hq
    go_wp2_with fail
    refine hK.out _ _ ?_ (fun hSc=>?_)
    ·exact ⟨cells_kept bq _ _ hS0.1,cells_kept bq _ _ hS0.2.1,cells_kept bq _ _ hS0.2.2.1,cells_kept bq _ _ hS0.2.2.2⟩
    clear hK
    refine wpAnyH_ready (rs:=[4,8]) (by kernel_rfl) (by simp) ?_
    refine AllReadyH.cons (o:=⟨some 99,_,_,_,_,_⟩) rfl (fun K hK=>?_) (AllReadyH.cons (o:=⟨some 15,_,_,_,_,_⟩) rfl (fun K hK=>?_) AllReadyH.nil)
    ·skip
     go_simp
     refine (kI _ _ _ t1 _ hc (fun h=>by cases h) hv (hTb0.below (bel_trans bd bq))).mono ?_
     rintro e wqc ⟨⟨v,rfl,hO⟩,hq⟩
     obtain ⟨ta,tc,rfl⟩:=hO.slice9
     clear hc hv
     have HO:Hid (OwnM wqc 0 (.slice ta re.length tc) re):=OwnM.lower hO (Nat.zero_le _)
     clear hO
     replace bq:=bel_trans bq hq
     clear hq
     go_wp2_with fail
     refine hK.out _ _ ?_ (fun hSc=>?_)
     ·exact ⟨cells_kept bq _ _ hS0.1,cells_kept bq _ _ hS0.2.1,cells_kept bq _ _ hS0.2.2.1,cells_kept bq _ _ hS0.2.2.2⟩
     clear hK
     refine tkm 5 94 (.tuple #[.agg #[.slice ta re.length tc],.int .i64 e0]) ?_
     refine tkm 6 100 (.agg #[.slice ta re.length tc]) ?_
     refine tkm 7 101 (.int .i64 e0) ?_
     refine tkr 8 15 (fun K hK=>?_)
     go_simp
     have hal:Below wqc.heap.size wqc (wqc.alloc (.cells #[.slice none 0 0] 33)):=by go_grown
     have hgx:m4.drew.heap.size≤wqc.heap.size:=bq.size
     have pX:=Blk.new wqc 33 [.slice none 0 0]
     replace bq:=bel_trans bq hal
     refine hK.out _ (wqc.alloc (.cells #[.slice none 0 0] 33)) ?_ (fun hSa=>?_)
     ·exact ⟨cells_kept bq _ _ hS0.1,cells_kept bq _ _ hS0.2.1,cells_kept bq _ _ hS0.2.2.1,cells_kept bq _ _ hS0.2.2.2⟩
     clear hK
     try simp only [Act.put,tka,tkb,tkc]
     generalize (wqc.alloc (.cells #[.slice none 0 0] 33))=wa at *
     replace HO:Hid (OwnM wa 0 (.slice ta re.length tc) re):=HO.out.below hal
     clear hal hSa
     refine tkz 9 (fun K hK=>?_)
     refine step_store_box rfl 33 _ _ rfl (wqc.heap.size) [.slice ta re.length tc] rfl rfl pX (by kernel_rfl) rfl rfl ?_
     intro w8 pX9 g9
     replace bq:=bq.grown g9 bq.size (fun x hx=>by cases hx;exact hgx)
     have hO9:=HO.out.keptB g9 pX (by decide) (by decide) (by decide)
     refine hK.out _ _ ?_ (fun hSb=>?_)
     ·exact ⟨cells_kept bq _ _ hS0.1,cells_kept bq _ _ hS0.2.1,cells_kept bq _ _ hS0.2.2.1,cells_kept bq _ _ hS0.2.2.2⟩
     clear hK
     try simp only [Act.put,tka,tkb,tkc]
     refine tkm 10 16 (.int .i64 e0) ?_
     refine wpAnyH_done (by kernel_rfl) ?_ _
     go_wp2_with fail
     go_meet
     case rel=>exact CutM14.mk9 (wqc.heap.size) ta tc rfl rfl pX9.out hO9 (bel_trans (by go_grown) bq)
    ·skip
     go_simp
     have hal:Below wqb.heap.size wqb (wqb.alloc (.cells #[.slice none 0 0] 33)):=by go_grown
     have hgx:m4.drew.heap.size≤wqb.heap.size:=bq.size
     have pX:=Blk.new wqb 33 [.slice none 0 0]
     replace bq:=bel_trans bq hal
     refine hK.out _ (wqb.alloc (.cells #[.slice none 0 0] 33)) ?_ (fun hSa=>?_)
     ·exact ⟨cells_kept bq _ _ hS0.1,cells_kept bq _ _ hS0.2.1,cells_kept bq _ _ hS0.2.2.1,cells_kept bq _ _ hS0.2.2.2⟩
     clear hK
     try simp only [Act.put,tka,tkb,tkc]
     generalize (wqb.alloc (.cells #[.slice none 0 0] 33))=wa at *
     replace hc:=hc.below hal
     replace hv:=hv.below hal
     clear hal hSa
     refine tkr 4 99 (fun K hK=>?_)
     go_simp
     refine (kI _ _ _ t1 _ hc (fun h=>by cases h) hv (hTb0.below (bel_trans bd bq))).mono ?_
     rintro e wqc ⟨⟨v,rfl,hO⟩,hq⟩
     obtain ⟨ta,tc,rfl⟩:=hO.slice9
     clear hc hv
     have HO:Hid (OwnM wqc 0 (.slice ta re.length tc) re):=OwnM.lower hO (Nat.zero_le _)
     clear hO
     replace pX:=pX.below hq
     replace bq:=bel_trans bq hq
     clear hq
     go_wp2_with fail
     refine hK.out _ _ ?_ (fun hSc=>?_)
     ·exact ⟨cells_kept bq _ _ hS0.1,cells_kept bq _ _ hS0.2.1,cells_kept bq _ _ hS0.2.2.1,cells_kept bq _ _ hS0.2.2.2⟩
     clear hK
     refine tkm 5 94 (.tuple #[.agg #[.slice ta re.length tc],.int .i64 e0]) ?_
     refine tkm 6 100 (.agg #[.slice ta re.length tc]) ?_
     refine tkm 7 101 (.int .i64 e0) ?_
     refine tkz 9 (fun K hK=>?_)
     refine step_store_box rfl 33 _ _ rfl (wqb.heap.size) [.slice ta re.length tc] rfl rfl pX (by kernel_rfl) rfl rfl ?_
     intro w8 pX9 g9
     replace bq:=bq.grown g9 bq.size (fun x hx=>by cases hx;exact hgx)
     have hO9:=HO.out.keptB g9 pX (by decide) (by decide) (by decide)
     refine hK.out _ _ ?_ (fun hSb=>?_)
     ·exact ⟨cells_kept bq _ _ hS0.1,cells_kept bq _ _ hS0.2.1,cells_kept bq _ _ hS0.2.2.1,cells_kept bq _ _ hS0.2.2.2⟩
     clear hK
     try simp only [Act.put,tka,tkb,tkc]
     refine tkm 10 16 (.int .i64 e0) ?_
     refine wpAnyH_done (by kernel_rfl) ?_ _
     go_wp2_with fail
     go_meet
     case rel=>exact CutM14.mk9 (wqb.heap.size) ta tc rfl rfl pX9.out hO9 (bel_trans (by go_grown) bq)
   ·skip
    go_simp
    have hal:Below wqa.heap.size wqa (wqa.alloc (.cells #[.slice none 0 0] 33)):=by go_grown
    have hgx:m4.drew.heap.size≤wqa.heap.size:=bq.size
    have pX:=Blk.new wqa 33 [.slice none 0 0]
    replace bq:=bel_trans bq hal
    refine hK.out _ (wqa.alloc (.cells #[.slice none 0 0] 33)) ?_ (fun hSa=>?_)
    ·exact ⟨cells_kept bq _ _ hS0.1,cells_kept bq _ _ hS0.2.1,cells_kept bq _ _ hS0.2.2.1,cells_kept bq _ _ hS0.2.2.2⟩
    clear hK
    try simp only [Act.put,tka,tkb,tkc]
    generalize (wqa.alloc (.cells #[.slice none 0 0] 33))=wa at *
    replace hc:=hc.below hal
    clear hal hSa
    refine tkr 3 98 (fun K hK=>?_)
    go_simp
    refine (kT1 _ (h1.below (bel_trans bd bq))).mono ?_
    rintro e wqb ⟨⟨t1,rfl,hO1⟩,hq⟩
    have hv:=hO1.mem f1
    replace hc:=hc.below hq
    clear hO1
    replace pX:=pX.below hq
    replace bq:=bel_trans bq hq
    clear hq
    go_wp2_with fail
    refine hK.out _ _ ?_ (fun hSc=>?_)
    ·exact ⟨cells_kept bq _ _ hS0.1,cells_kept bq _ _ hS0.2.1,cells_kept bq _ _ hS0.2.2.1,cells_kept bq _ _ hS0.2.2.2⟩
    clear hK
    refine tkr 4 99 (fun K hK=>?_)
    go_simp
    refine (kI _ _ _ t1 _ hc (fun h=>by cases h) hv (hTb0.below (bel_trans bd bq))).mono ?_
    rintro e wqc ⟨⟨v,rfl,hO⟩,hq⟩
    obtain ⟨ta,tc,rfl⟩:=hO.slice9
    clear hc hv
    have HO:Hid (OwnM wqc 0 (.slice ta re.length tc) re):=OwnM.lower hO (Nat.zero_le _)
    clear hO
    replace pX:=pX.below hq
    replace bq:=bel_trans bq hq
    clear hq
    go_wp2_with fail
    refine hK.out _ _ ?_ (fun hSc=>?_)
    ·exact ⟨cells_kept bq _ _ hS0.1,cells_kept bq _ _ hS0.2.1,cells_kept bq _ _ hS0.2.2.1,cells_kept bq _ _ hS0.2.2.2⟩
    clear hK
    refine tkm 5 94 (.tuple #[.agg #[.slice ta re.length tc],.int .i64 e0]) ?_
    refine tkm 6 100 (.agg #[.slice ta re.length tc]) ?_
    refine tkm 7 101 (.int .i64 e0) ?_
    refine tkz 9 (fun K hK=>?_)
    refine step_store_box rfl 33 _ _ rfl (wqa.heap.size) [.slice ta re.length tc] rfl rfl pX (by kernel_rfl) rfl rfl ?_
    intro w8 pX9 g9
    replace bq:=bq.grown g9 bq.size (fun x hx=>by cases hx;exact hgx)
    have hO9:=HO.out.keptB g9 pX (by decide) (by decide) (by decide)
    refine hK.out _ _ ?_ (fun hSb=>?_)
    ·exact ⟨cells_kept bq _ _ hS0.1,cells_kept bq _ _ hS0.2.1,cells_kept bq _ _ hS0.2.2.1,cells_kept bq _ _ hS0.2.2.2⟩
    clear hK
    try simp only [Act.put,tka,tkb,tkc]
    refine tkm 10 16 (.int .i64 e0) ?_
    refine wpAnyH_done (by kernel_rfl) ?_ _
    go_wp2_with fail
    go_meet
    case rel=>exact CutM14.mk9 (wqa.heap.size) ta tc rfl rfl pX9.out hO9 (bel_trans (by go_grown) bq)
  ·skip
   go_simp
   have hal:Below m4.drew.heap.size m4.drew (m4.drew.alloc (.cells #[.slice none 0 0] 33)):=by go_grown
   have hgx:m4.drew.heap.size≤m4.drew.heap.size:=bq.size
   have pX:=Blk.new m4.drew 33 [.slice none 0 0]
   replace bq:=bel_trans bq hal
   refine hK.out _ (m4.drew.alloc (.cells #[.slice none 0 0] 33)) ?_ (fun hSa=>?_)
   ·exact ⟨cells_kept bq _ _ hS0.1,cells_kept bq _ _ hS0.2.1,cells_kept bq _ _ hS0.2.2.1,cells_kept bq _ _ hS0.2.2.2⟩
   clear hK
   try simp only [Act.put,tka,tkb,tkc]
   generalize (m4.drew.alloc (.cells #[.slice none 0 0] 33))=wa at *
   clear hal hSa
   refine tkr 1 96 (fun K hK=>?_)
   go_simp
   refine (kT _ (h0.below (bel_trans bd bq))).mono ?_
   rintro e wqa ⟨rfl,hO0,hq⟩
   have hc:=hO0.ents f0
   clear hO0
   replace pX:=pX.below hq
   replace bq:=bel_trans bq hq
   clear hq
   go_wp2_with fail
   refine hK.out _ _ ?_ (fun hSc=>?_)
   ·exact ⟨cells_kept bq _ _ hS0.1,cells_kept bq _ _ hS0.2.1,cells_kept bq _ _ hS0.2.2.1,cells_kept bq _ _ hS0.2.2.2⟩
   clear hK
   refine tkr 3 98 (fun K hK=>?_)
   go_simp
   refine (kT1 _ (h1.below (bel_trans bd bq))).mono ?_
   rintro e wqb ⟨⟨t1,rfl,hO1⟩,hq⟩
   have hv:=hO1.mem f1
   replace hc:=hc.below hq
   clear hO1
   replace pX:=pX.below hq
   replace bq:=bel_trans bq hq
   clear hq
   go_wp2_with fail
   refine hK.out _ _ ?_ (fun hSc=>?_)
   ·exact ⟨cells_kept bq _ _ hS0.1,cells_kept bq _ _ hS0.2.1,cells_kept bq _ _ hS0.2.2.1,cells_kept bq _ _ hS0.2.2.2⟩
   clear hK
   refine tkr 4 99 (fun K hK=>?_)
   go_simp
   refine (kI _ _ _ t1 _ hc (fun h=>by cases h) hv (hTb0.below (bel_trans bd bq))).mono ?_
   rintro e wqc ⟨⟨v,rfl,hO⟩,hq⟩
   obtain ⟨ta,tc,rfl⟩:=hO.slice9
   clear hc hv
   have HO:Hid (OwnM wqc 0 (.slice ta re.length tc) re):=OwnM.lower hO (Nat.zero_le _)
   clear hO
   replace pX:=pX.below hq
   replace bq:=bel_trans bq hq
   clear hq
   go_wp2_with fail
   refine hK.out _ _ ?_ (fun hSc=>?_)
   ·exact ⟨cells_kept bq _ _ hS0.1,cells_kept bq _ _ hS0.2.1,cells_kept bq _ _ hS0.2.2.1,cells_kept bq _ _ hS0.2.2.2⟩
   clear hK
   refine tkm 5 94 (.tuple #[.agg #[.slice ta re.length tc],.int .i64 e0]) ?_
   refine tkm 6 100 (.agg #[.slice ta re.length tc]) ?_
   refine tkm 7 101 (.int .i64 e0) ?_
   refine tkz 9 (fun K hK=>?_)
   refine step_store_box rfl 33 _ _ rfl (m4.drew.heap.size) [.slice ta re.length tc] rfl rfl pX (by kernel_rfl) rfl rfl ?_
   intro w8 pX9 g9
   replace bq:=bq.grown g9 bq.size (fun x hx=>by cases hx;exact hgx)
   have hO9:=HO.out.keptB g9 pX (by decide) (by decide) (by decide)
   refine hK.out _ _ ?_ (fun hSb=>?_)
   ·exact ⟨cells_kept bq _ _ hS0.1,cells_kept bq _ _ hS0.2.1,cells_kept bq _ _ hS0.2.2.1,cells_kept bq _ _ hS0.2.2.2⟩
   clear hK
   try simp only [Act.put,tka,tkb,tkc]
   refine tkm 10 16 (.int .i64 e0) ?_
   refine wpAnyH_done (by kernel_rfl) ?_ _
   go_wp2_with fail
   go_meet
   case rel=>exact CutM14.mk9 (m4.drew.heap.size) ta tc rfl rfl pX9.out hO9 (bel_trans (by go_grown) bq)
 obtain ⟨TQ,ta,tc,rfl,rfl,pQ,hQ,hbr⟩:=hcut
 rename World=>wu2
 clear g0 g1 g2 g3 kI
 replace bw:=bel8 bw hbr
 replace p0:=p0.below hbr
 replace p1:=p1.below hbr
 replace pS:=pS.below hbr
 replace hS:=hS.below hbr
 replace pG:=pG.below hbr
 replace hH:=hH.below hbr
 clear hbr
 have cg0:=pQ.cell 0
 simp only [List.getElem?_cons_zero,List.getElem?_cons_succ] at cg0
 have cs0:=pS.cell 0
 simp only [List.getElem?_cons_zero,List.getElem?_cons_succ] at cs0
 go_wp2_with fail
 clear cg0 cs0
 refine (eqMemo_same _ _ _ _ _ re _ (hQ.ents hre) (hS.own.ents hre)).mono ?_
 rintro e m5 ⟨rfl,hb⟩
 replace bw:=bel8 bw hb
 replace p0:=p0.below hb
 replace p1:=p1.below hb
 replace pS:=pS.below hb
 replace hS:=hS.below hb
 replace pG:=pG.below hb
 replace hH:=hH.below hb
 clear hb hQ hS
 have cg0:=pG.cell 0
 simp only [List.getElem?_cons_zero,List.getElem?_cons_succ] at cg0
 go_wp2_with fail
 clear cg0
 refine (heldMemo_own Bi _ 1 re _ (by omega) (by omega) hrc hrl hH.own).mono ?_
 rintro e m6 ⟨rfl,hb⟩
 replace bw:=bel8 bw hb
 go_wp2
 go_ret
 exact ⟨rfl,bw⟩
end Go.Proofs.YthlcdhddickdiaaDoor
