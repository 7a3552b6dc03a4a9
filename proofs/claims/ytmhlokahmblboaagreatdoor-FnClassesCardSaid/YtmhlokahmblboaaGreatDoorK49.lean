/-
  Joined: ClsE, RowBelow, FclW, Vars.
-/
import Derived.WalkSmall
import Derived.ChangeOld
import Derived.Test.YtmhlokahmblboaaGreatDoorK26
import Derived.Test.YtmhlokahmblboaaGreatDoorK38
import Derived.Test.YtmhlokahmblboaaGreatDoorK47
import Derived.Test.YtmhlokahmblboaaGreatDoorK48

namespace Go.Proofs.YtmhlokahmblboaaGreatDoor
set_option maxRecDepth 100000
set_option maxHeartbeats 16000000
open Go.RowKit
set_option linter.unusedVariables false
set_option linter.unusedSimpArgs false

def FV (U W:World) (r:List (List Int) × Bool) (s6 s7:Value):Prop:=∃ rb ro rn rk,s6=.slice (some ⟨rb,ro,none⟩) rn rk∧s7=.bool r.2∧Wl W (some ⟨rb,ro,none⟩) rn rk r.1∧Below U.heap.size U W

theorem Sp (a:Option Addr) (len cap:Nat) (rows:List (List I3)) (w:World) (hC:XL w a len cap rows) :
  Calls Tryz.prog 7 #[.agg #[.slice a len cap]] w fun e w'=>e=.returned (.tuple #[.int .i64 (SO rows),.int .i64 (T2 rows)])∧Below w.heap.size w w':=by
 have kN:=XV
 have fz:=(ZO ZH).1
 have bw:Below w.heap.size w (w.alloc (.cells #[.slice a len cap] 25)):=by go_grown
 have pP:Blk (w.alloc (.cells #[.slice a len cap] 25)) w.heap.size 25 [.slice a len cap]:=Zo _ _ _ rfl
 have kC:=Sq a len cap rows _ (hC.below bw)
 have HC9:Hid (T2 rows=if Xi rows=0 then (if Z7 rows Zl≤5000 then (if (W8 rows).length≤300 then 0 else 15) else 15) else Xi rows):=rfl
 have HV9:Hid (SO rows=if T2 rows=0 then ((W8 rows).length:Int) else 0):=rfl
 have HCV:Hid (Pv rows=if Xi rows=0 then (Z7 rows Zl:Int) else 0):=rfl
 have HCP:Hid (Xi rows=0→Zn rows=true):=fun h=>(UN h).1
 have HGA:Hid (((WS rows 19 Zl [] ([],true)).2=true→(WS rows 19 Zl [] ([],true)).1=W8 rows∧(W8 rows).length≤300)∧((WS rows 19 Zl [] ([],true)).2=false→300<(W8 rows).length)):=GU rows
 generalize T2 rows=rc at *
 generalize SO rows=rv at *
 generalize Pv rows=cv at *
 generalize Xi rows=cf at *
 go_enter Tryz.func7,Tryz.ntmps7
 go_wp2_with fail
 generalize (w.alloc (.cells #[.slice a len cap] 25))=U0 at *
 go_wp2_with (refine Zc rfl 25 _ rfl w.heap.size rfl pP _ Tryz.underlying25 rfl (by kernel_rfl) ?_)
 refine kC.mono ?_
 rintro e U ⟨rfl,hb⟩
 replace bw:=Zb bw hb
 replace pP:=pP.below hb
 clear hb kC
 by_cases hcf:cf=0
 ·subst hcf
  have hp:=HCP.out rfl
  have hcv:=HCV.out
  rw [if_pos rfl] at hcv
  subst hcv
  replace HC9:Hid (rc=(if Z7 rows Zl≤5000 then (if (W8 rows).length≤300 then 0 else 15) else 15)):=by rw [Hid,HC9.out,if_pos rfl]
  clear HCP HCV
  by_cases h5:Z7 rows Zl≤5000
  ·replace HC9:Hid (rc=(if (W8 rows).length≤300 then 0 else 15)):=by rw [Hid,HC9.out,if_pos h5]
   have h5':¬ (5000<(Z7 rows Zl:Int)):=by omega
   generalize Z7 rows Zl=cn at *
   obtain ⟨hlen,cs,hR⟩:=hC.rowsAt hp
   subst hlen
   replace hR:=hR.below bw
   have kX:=fun (W:World) (b:Below U.heap.size U W) (t:S4) (lb ob:Nat) (h:Yk W t Zl)=>SB (cap:=cap) hp 19 Zl [] [] ZH (by have:=S8 hp Zl;omega) ⟨rfl,rfl⟩ (by simp) (by simp) W a cs t lb 0 0 ob 0 0 (hR.below b) h ⟨rfl,Nat.le_refl _,by unfold maxLen;omega,.inl rfl⟩ ⟨rfl,Nat.le_refl _,by unfold maxLen;omega,[],⟨rfl,fun j hj=>by simp at hj⟩,.inl rfl⟩
   simp only [List.length_nil] at kX
   generalize WS rows 19 Zl [] ([],true)=r at *
   clear hC hR hp
   go_wp2_with fail
   go_cut [6,7] from 8 (fun s6 s7 W=>FV U W r s6 s7)
   case first =>
    have bz:Below U.heap.size U U.drew:=by go_grown
    refine wp_region_held_drew (S:=(fun w'=>w'.cell? ⟨w.heap.size,0,none⟩=some (.slice a 3 cap))) (by kernel_rfl) (by simpa using pP.cell 0) (fun hS0=>?_)
    refine tkm 0 19 (.agg #[.slice a 3 cap]) ?_
    clear pP
    have hS:=hS0
    clear hS0
    generalize U.drew=V0 at *
    refine wpAnyH_ready (rs:=[1,2,3]) (by kernel_rfl) (by simp) ?_
    refine AllReadyH.cons (o:=⟨some 20,_,_,_,_,_⟩) rfl (fun K hK=>?_) (AllReadyH.cons (o:=⟨some 21,_,_,_,_,_⟩) rfl (fun K hK=>?_) (AllReadyH.cons (o:=⟨some 22,_,_,_,_,_⟩) rfl (fun K hK=>?_) AllReadyH.nil))
    ·go_simp
     refine (kN V0).mono ?_
     rintro e V1 ⟨⟨⟨⟨t0a,t0n,t0c⟩,⟨t1a,t1n,t1c⟩,⟨t2a,t2n,t2c⟩,⟨t3a,t3n,t3c⟩⟩,rfl,hO⟩,hb⟩
     have ut:S4.val ((t0a,t0n,t0c),(t1a,t1n,t1c),(t2a,t2n,t2c),(t3a,t3n,t3c))=.agg #[.slice t0a t0n t0c,.slice t1a t1n t1c,.slice t2a t2n t2c,.slice t3a t3n t3c]:=rfl
     rw [ut]
     have hS9:=Za hb _ _ hS
     replace bz:=Zb bz hb
     go_wp2_with fail
     refine hK.out _ _ hS9 (fun _=>?_)
     clear hK hS hb
     have hS:=hS9
     clear hS9
     try simp only [Act.put,tka,tkb,tkc]
     refine wpAnyH_ready (rs:=[2,3]) (by kernel_rfl) (by simp) ?_
     refine AllReadyH.cons (o:=⟨some 21,_,_,_,_,_⟩) rfl (fun K hK=>?_) (AllReadyH.cons (o:=⟨some 22,_,_,_,_,_⟩) rfl (fun K hK=>?_) AllReadyH.nil)
     ·have hb:Below V1.heap.size V1 (V1.alloc (.cells #[] 3)):=by go_grown
      have hS9:=Za hb _ _ hS
      replace bz:=Zb bz hb
      replace hO:=hO.below hb
      go_simp
      refine hK.out _ _ hS9 (fun _=>?_)
      clear hK hS hb
      have hS:=hS9
      clear hS9
      generalize (V1.alloc (.cells #[] 3))=V2 at *
      obtain ⟨L1,hL⟩:∃ x,x=V1.heap.size:=⟨_,rfl⟩
      rw [← hL]
      clear hL
      try simp only [Act.put,tka,tkb,tkc]
      refine tkr 3 22 (fun K hK=>?_)
      have hb:Below V2.heap.size V2 (V2.alloc (.cells #[] 72)):=by go_grown
      have hS9:=Za hb _ _ hS
      replace bz:=Zb bz hb
      replace hO:=hO.below hb
      go_simp
      refine hK.out _ _ hS9 (fun _=>?_)
      clear hK hS hb
      have hS:=hS9
      clear hS9
      generalize (V2.alloc (.cells #[] 72))=V3 at *
      obtain ⟨O1,hL⟩:∃ x,x=V2.heap.size:=⟨_,rfl⟩
      rw [← hL]
      clear hL
      try simp only [Act.put,tka,tkb,tkc]
      refine tkr 4 23 (fun K hK=>?_)
      have kx:=kX V3 bz ((t0a,t0n,t0c),(t1a,t1n,t1c),(t2a,t2n,t2c),(t3a,t3n,t3c)) L1 O1 (hO.mem fz)
      rw [ut] at kx
      go_simp
      refine kx.mono ?_
      rintro e V9 ⟨⟨rb,ro,rn,rk,rfl,hRw⟩,hb⟩
      have hS0:=Za hb _ _ hS
      replace bz:=Zb bz hb
      go_wp2_with fail
      refine hK.out _ _ hS0 (fun _=>?_)
      clear hK hS hb kx
      try simp only [Act.put,tka,tkb,tkc]
      refine tkm 5 18 (.tuple #[.slice (some ⟨rb,ro,none⟩) rn rk,.bool r.2]) ?_
      refine tkm 6 24 (.slice (some ⟨rb,ro,none⟩) rn rk) ?_
      refine tkm 7 25 (.bool r.2) ?_
      refine tkm 8 6 (.slice (some ⟨rb,ro,none⟩) rn rk) ?_
      refine tkm 9 7 (.bool r.2) ?_
      refine wpAnyH_done (by kernel_rfl) ?_ _
      go_wp2_with fail
      go_meet
      case rel=>exact ⟨rb,ro,rn,rk,rfl,rfl,hRw,bz⟩
     have hb:Below V1.heap.size V1 (V1.alloc (.cells #[] 72)):=by go_grown
     have hS9:=Za hb _ _ hS
     replace bz:=Zb bz hb
     replace hO:=hO.below hb
     go_simp
     refine hK.out _ _ hS9 (fun _=>?_)
     clear hK hS hb
     have hS:=hS9
     clear hS9
     generalize (V1.alloc (.cells #[] 72))=V2 at *
     obtain ⟨O1,hL⟩:∃ x,x=V1.heap.size:=⟨_,rfl⟩
     rw [← hL]
     clear hL
     try simp only [Act.put,tka,tkb,tkc]
     refine tkr 2 21 (fun K hK=>?_)
     have hb:Below V2.heap.size V2 (V2.alloc (.cells #[] 3)):=by go_grown
     have hS9:=Za hb _ _ hS
     replace bz:=Zb bz hb
     replace hO:=hO.below hb
     go_simp
     refine hK.out _ _ hS9 (fun _=>?_)
     clear hK hS hb
     have hS:=hS9
     clear hS9
     generalize (V2.alloc (.cells #[] 3))=V3 at *
     obtain ⟨L1,hL⟩:∃ x,x=V2.heap.size:=⟨_,rfl⟩
     rw [← hL]
     clear hL
     try simp only [Act.put,tka,tkb,tkc]
     refine tkr 4 23 (fun K hK=>?_)
     have kx:=kX V3 bz ((t0a,t0n,t0c),(t1a,t1n,t1c),(t2a,t2n,t2c),(t3a,t3n,t3c)) L1 O1 (hO.mem fz)
     rw [ut] at kx
     go_simp
     refine kx.mono ?_
     rintro e V9 ⟨⟨rb,ro,rn,rk,rfl,hRw⟩,hb⟩
     have hS0:=Za hb _ _ hS
     replace bz:=Zb bz hb
     go_wp2_with fail
     refine hK.out _ _ hS0 (fun _=>?_)
     clear hK hS hb kx
     try simp only [Act.put,tka,tkb,tkc]
     refine tkm 5 18 (.tuple #[.slice (some ⟨rb,ro,none⟩) rn rk,.bool r.2]) ?_
     refine tkm 6 24 (.slice (some ⟨rb,ro,none⟩) rn rk) ?_
     refine tkm 7 25 (.bool r.2) ?_
     refine tkm 8 6 (.slice (some ⟨rb,ro,none⟩) rn rk) ?_
     refine tkm 9 7 (.bool r.2) ?_
     refine wpAnyH_done (by kernel_rfl) ?_ _
     go_wp2_with fail
     go_meet
     case rel=>exact ⟨rb,ro,rn,rk,rfl,rfl,hRw,bz⟩
    ·have hb:Below V0.heap.size V0 (V0.alloc (.cells #[] 3)):=by go_grown
     have hS9:=Za hb _ _ hS
     replace bz:=Zb bz hb
     go_simp
     refine hK.out _ _ hS9 (fun _=>?_)
     clear hK hS hb
     have hS:=hS9
     clear hS9
     generalize (V0.alloc (.cells #[] 3))=V1 at *
     obtain ⟨L1,hL⟩:∃ x,x=V0.heap.size:=⟨_,rfl⟩
     rw [← hL]
     clear hL
     try simp only [Act.put,tka,tkb,tkc]
     refine wpAnyH_ready (rs:=[1,3]) (by kernel_rfl) (by simp) ?_
     refine AllReadyH.cons (o:=⟨some 20,_,_,_,_,_⟩) rfl (fun K hK=>?_) (AllReadyH.cons (o:=⟨some 22,_,_,_,_,_⟩) rfl (fun K hK=>?_) AllReadyH.nil)
     ·go_simp
      refine (kN V1).mono ?_
      rintro e V2 ⟨⟨⟨⟨t0a,t0n,t0c⟩,⟨t1a,t1n,t1c⟩,⟨t2a,t2n,t2c⟩,⟨t3a,t3n,t3c⟩⟩,rfl,hO⟩,hb⟩
      have ut:S4.val ((t0a,t0n,t0c),(t1a,t1n,t1c),(t2a,t2n,t2c),(t3a,t3n,t3c))=.agg #[.slice t0a t0n t0c,.slice t1a t1n t1c,.slice t2a t2n t2c,.slice t3a t3n t3c]:=rfl
      rw [ut]
      have hS9:=Za hb _ _ hS
      replace bz:=Zb bz hb
      go_wp2_with fail
      refine hK.out _ _ hS9 (fun _=>?_)
      clear hK hS hb
      have hS:=hS9
      clear hS9
      try simp only [Act.put,tka,tkb,tkc]
      refine tkr 3 22 (fun K hK=>?_)
      have hb:Below V2.heap.size V2 (V2.alloc (.cells #[] 72)):=by go_grown
      have hS9:=Za hb _ _ hS
      replace bz:=Zb bz hb
      replace hO:=hO.below hb
      go_simp
      refine hK.out _ _ hS9 (fun _=>?_)
      clear hK hS hb
      have hS:=hS9
      clear hS9
      generalize (V2.alloc (.cells #[] 72))=V3 at *
      obtain ⟨O1,hL⟩:∃ x,x=V2.heap.size:=⟨_,rfl⟩
      rw [← hL]
      clear hL
      try simp only [Act.put,tka,tkb,tkc]
      refine tkr 4 23 (fun K hK=>?_)
      have kx:=kX V3 bz ((t0a,t0n,t0c),(t1a,t1n,t1c),(t2a,t2n,t2c),(t3a,t3n,t3c)) L1 O1 (hO.mem fz)
      rw [ut] at kx
      go_simp
      refine kx.mono ?_
      rintro e V9 ⟨⟨rb,ro,rn,rk,rfl,hRw⟩,hb⟩
      have hS0:=Za hb _ _ hS
      replace bz:=Zb bz hb
      go_wp2_with fail
      refine hK.out _ _ hS0 (fun _=>?_)
      clear hK hS hb kx
      try simp only [Act.put,tka,tkb,tkc]
      refine tkm 5 18 (.tuple #[.slice (some ⟨rb,ro,none⟩) rn rk,.bool r.2]) ?_
      refine tkm 6 24 (.slice (some ⟨rb,ro,none⟩) rn rk) ?_
      refine tkm 7 25 (.bool r.2) ?_
      refine tkm 8 6 (.slice (some ⟨rb,ro,none⟩) rn rk) ?_
      refine tkm 9 7 (.bool r.2) ?_
      refine wpAnyH_done (by kernel_rfl) ?_ _
      go_wp2_with fail
      go_meet
      case rel=>exact ⟨rb,ro,rn,rk,rfl,rfl,hRw,bz⟩
     have hb:Below V1.heap.size V1 (V1.alloc (.cells #[] 72)):=by go_grown
     have hS9:=Za hb _ _ hS
     replace bz:=Zb bz hb
     go_simp
     refine hK.out _ _ hS9 (fun _=>?_)
     clear hK hS hb
     have hS:=hS9
     clear hS9
     generalize (V1.alloc (.cells #[] 72))=V2 at *
     obtain ⟨O1,hL⟩:∃ x,x=V1.heap.size:=⟨_,rfl⟩
     rw [← hL]
     clear hL
     try simp only [Act.put,tka,tkb,tkc]
     refine tkr 1 20 (fun K hK=>?_)
     go_simp
     refine (kN V2).mono ?_
     rintro e V3 ⟨⟨⟨⟨t0a,t0n,t0c⟩,⟨t1a,t1n,t1c⟩,⟨t2a,t2n,t2c⟩,⟨t3a,t3n,t3c⟩⟩,rfl,hO⟩,hb⟩
     have ut:S4.val ((t0a,t0n,t0c),(t1a,t1n,t1c),(t2a,t2n,t2c),(t3a,t3n,t3c))=.agg #[.slice t0a t0n t0c,.slice t1a t1n t1c,.slice t2a t2n t2c,.slice t3a t3n t3c]:=rfl
     rw [ut]
     have hS9:=Za hb _ _ hS
     replace bz:=Zb bz hb
     go_wp2_with fail
     refine hK.out _ _ hS9 (fun _=>?_)
     clear hK hS hb
     have hS:=hS9
     clear hS9
     try simp only [Act.put,tka,tkb,tkc]
     refine tkr 4 23 (fun K hK=>?_)
     have kx:=kX V3 bz ((t0a,t0n,t0c),(t1a,t1n,t1c),(t2a,t2n,t2c),(t3a,t3n,t3c)) L1 O1 (hO.mem fz)
     rw [ut] at kx
     go_simp
     refine kx.mono ?_
     rintro e V9 ⟨⟨rb,ro,rn,rk,rfl,hRw⟩,hb⟩
     have hS0:=Za hb _ _ hS
     replace bz:=Zb bz hb
     go_wp2_with fail
     refine hK.out _ _ hS0 (fun _=>?_)
     clear hK hS hb kx
     try simp only [Act.put,tka,tkb,tkc]
     refine tkm 5 18 (.tuple #[.slice (some ⟨rb,ro,none⟩) rn rk,.bool r.2]) ?_
     refine tkm 6 24 (.slice (some ⟨rb,ro,none⟩) rn rk) ?_
     refine tkm 7 25 (.bool r.2) ?_
     refine tkm 8 6 (.slice (some ⟨rb,ro,none⟩) rn rk) ?_
     refine tkm 9 7 (.bool r.2) ?_
     refine wpAnyH_done (by kernel_rfl) ?_ _
     go_wp2_with fail
     go_meet
     case rel=>exact ⟨rb,ro,rn,rk,rfl,rfl,hRw,bz⟩
    have hb:Below V0.heap.size V0 (V0.alloc (.cells #[] 72)):=by go_grown
    have hS9:=Za hb _ _ hS
    replace bz:=Zb bz hb
    go_simp
    refine hK.out _ _ hS9 (fun _=>?_)
    clear hK hS hb
    have hS:=hS9
    clear hS9
    generalize (V0.alloc (.cells #[] 72))=V1 at *
    obtain ⟨O1,hL⟩:∃ x,x=V0.heap.size:=⟨_,rfl⟩
    rw [← hL]
    clear hL
    try simp only [Act.put,tka,tkb,tkc]
    refine wpAnyH_ready (rs:=[1,2]) (by kernel_rfl) (by simp) ?_
    refine AllReadyH.cons (o:=⟨some 20,_,_,_,_,_⟩) rfl (fun K hK=>?_) (AllReadyH.cons (o:=⟨some 21,_,_,_,_,_⟩) rfl (fun K hK=>?_) AllReadyH.nil)
    ·go_simp
     refine (kN V1).mono ?_
     rintro e V2 ⟨⟨⟨⟨t0a,t0n,t0c⟩,⟨t1a,t1n,t1c⟩,⟨t2a,t2n,t2c⟩,⟨t3a,t3n,t3c⟩⟩,rfl,hO⟩,hb⟩
     have ut:S4.val ((t0a,t0n,t0c),(t1a,t1n,t1c),(t2a,t2n,t2c),(t3a,t3n,t3c))=.agg #[.slice t0a t0n t0c,.slice t1a t1n t1c,.slice t2a t2n t2c,.slice t3a t3n t3c]:=rfl
     rw [ut]
     have hS9:=Za hb _ _ hS
     replace bz:=Zb bz hb
     go_wp2_with fail
     refine hK.out _ _ hS9 (fun _=>?_)
     clear hK hS hb
     have hS:=hS9
     clear hS9
     try simp only [Act.put,tka,tkb,tkc]
     refine tkr 2 21 (fun K hK=>?_)
     have hb:Below V2.heap.size V2 (V2.alloc (.cells #[] 3)):=by go_grown
     have hS9:=Za hb _ _ hS
     replace bz:=Zb bz hb
     replace hO:=hO.below hb
     go_simp
     refine hK.out _ _ hS9 (fun _=>?_)
     clear hK hS hb
     have hS:=hS9
     clear hS9
     generalize (V2.alloc (.cells #[] 3))=V3 at *
     obtain ⟨L1,hL⟩:∃ x,x=V2.heap.size:=⟨_,rfl⟩
     rw [← hL]
     clear hL
     try simp only [Act.put,tka,tkb,tkc]
     refine tkr 4 23 (fun K hK=>?_)
     have kx:=kX V3 bz ((t0a,t0n,t0c),(t1a,t1n,t1c),(t2a,t2n,t2c),(t3a,t3n,t3c)) L1 O1 (hO.mem fz)
     rw [ut] at kx
     go_simp
     refine kx.mono ?_
     rintro e V9 ⟨⟨rb,ro,rn,rk,rfl,hRw⟩,hb⟩
     have hS0:=Za hb _ _ hS
     replace bz:=Zb bz hb
     go_wp2_with fail
     refine hK.out _ _ hS0 (fun _=>?_)
     clear hK hS hb kx
     try simp only [Act.put,tka,tkb,tkc]
     refine tkm 5 18 (.tuple #[.slice (some ⟨rb,ro,none⟩) rn rk,.bool r.2]) ?_
     refine tkm 6 24 (.slice (some ⟨rb,ro,none⟩) rn rk) ?_
     refine tkm 7 25 (.bool r.2) ?_
     refine tkm 8 6 (.slice (some ⟨rb,ro,none⟩) rn rk) ?_
     refine tkm 9 7 (.bool r.2) ?_
     refine wpAnyH_done (by kernel_rfl) ?_ _
     go_wp2_with fail
     go_meet
     case rel=>exact ⟨rb,ro,rn,rk,rfl,rfl,hRw,bz⟩
    have hb:Below V1.heap.size V1 (V1.alloc (.cells #[] 3)):=by go_grown
    have hS9:=Za hb _ _ hS
    replace bz:=Zb bz hb
    go_simp
    refine hK.out _ _ hS9 (fun _=>?_)
    clear hK hS hb
    have hS:=hS9
    clear hS9
    generalize (V1.alloc (.cells #[] 3))=V2 at *
    obtain ⟨L1,hL⟩:∃ x,x=V1.heap.size:=⟨_,rfl⟩
    rw [← hL]
    clear hL
    try simp only [Act.put,tka,tkb,tkc]
    refine tkr 1 20 (fun K hK=>?_)
    go_simp
    refine (kN V2).mono ?_
    rintro e V3 ⟨⟨⟨⟨t0a,t0n,t0c⟩,⟨t1a,t1n,t1c⟩,⟨t2a,t2n,t2c⟩,⟨t3a,t3n,t3c⟩⟩,rfl,hO⟩,hb⟩
    have ut:S4.val ((t0a,t0n,t0c),(t1a,t1n,t1c),(t2a,t2n,t2c),(t3a,t3n,t3c))=.agg #[.slice t0a t0n t0c,.slice t1a t1n t1c,.slice t2a t2n t2c,.slice t3a t3n t3c]:=rfl
    rw [ut]
    have hS9:=Za hb _ _ hS
    replace bz:=Zb bz hb
    go_wp2_with fail
    refine hK.out _ _ hS9 (fun _=>?_)
    clear hK hS hb
    have hS:=hS9
    clear hS9
    try simp only [Act.put,tka,tkb,tkc]
    refine tkr 4 23 (fun K hK=>?_)
    have kx:=kX V3 bz ((t0a,t0n,t0c),(t1a,t1n,t1c),(t2a,t2n,t2c),(t3a,t3n,t3c)) L1 O1 (hO.mem fz)
    rw [ut] at kx
    go_simp
    refine kx.mono ?_
    rintro e V9 ⟨⟨rb,ro,rn,rk,rfl,hRw⟩,hb⟩
    have hS0:=Za hb _ _ hS
    replace bz:=Zb bz hb
    go_wp2_with fail
    refine hK.out _ _ hS0 (fun _=>?_)
    clear hK hS hb kx
    try simp only [Act.put,tka,tkb,tkc]
    refine tkm 5 18 (.tuple #[.slice (some ⟨rb,ro,none⟩) rn rk,.bool r.2]) ?_
    refine tkm 6 24 (.slice (some ⟨rb,ro,none⟩) rn rk) ?_
    refine tkm 7 25 (.bool r.2) ?_
    refine tkm 8 6 (.slice (some ⟨rb,ro,none⟩) rn rk) ?_
    refine tkm 9 7 (.bool r.2) ?_
    refine wpAnyH_done (by kernel_rfl) ?_ _
    go_wp2_with fail
    go_meet
    case rel=>exact ⟨rb,ro,rn,rk,rfl,rfl,hRw,bz⟩
   obtain ⟨rb,ro,rn,rk,rfl,rfl,hRw,bz⟩:=hcut
   replace bw:=Zb bw bz
   have hrn:=hRw.1
   clear kX kN pP bz fz
   obtain ⟨r1,r2⟩:=r
   simp only at hrn HGA ⊢
   cases r2
   ·have HF:Hid (rc=15∧rv=0):=by
     have h3:=HGA.out.2 rfl
     have e1:rc=15:=by rw [HC9.out,if_neg (by omega)]
     exact ⟨e1,by rw [HV9.out,e1];rfl⟩
    clear HC9 HV9 HGA hRw hrn
    go_wp2
    refine bodyPost_ret (by simp [results,Tryz.results7,go_sem];try rfl) rfl ?_
    exact ⟨by rw [HF.out.1,HF.out.2],bw⟩
   have HF:Hid (rc=0∧rv=(rn:Int)):=by
    obtain ⟨h3,h4⟩:=HGA.out.1 rfl
    have e1:rc=0:=by rw [HC9.out,if_pos h4]
    exact ⟨e1,by rw [HV9.out,if_pos e1,← h3,hrn]⟩
   clear HC9 HV9 HGA hRw hrn
   go_wp2
   refine bodyPost_ret (by simp [results,Tryz.results7,go_sem];try rfl) rfl ?_
   exact ⟨by rw [HF.out.1,HF.out.2],bw⟩
  have h5':5000<(Z7 rows Zl:Int):=by omega
  have HF:Hid (rc=15∧rv=0):=by
   have e1:rc=15:=by rw [HC9.out,if_neg h5]
   exact ⟨e1,by rw [HV9.out,e1];rfl⟩
  clear HC9 HV9 HGA
  go_wp2
  refine bodyPost_ret (by simp [results,Tryz.results7,go_sem];try rfl) rfl ?_
  exact ⟨by rw [HF.out.1,HF.out.2],bw⟩
 have hcn:(cf != 0)=true:=by simpa using hcf
 have HF:Hid (rc=cf∧rv=0):=by
  have e1:rc=cf:=by rw [HC9.out,if_neg hcf]
  exact ⟨e1,by rw [HV9.out,e1,if_neg hcf]⟩
 clear HC9 HV9 HCV HCP HGA
 go_wp2
 refine bodyPost_ret (by simp [results,Tryz.results7,go_sem];try rfl) rfl ?_
 exact ⟨by rw [HF.out.1,HF.out.2],bw⟩


theorem IsRow.len_le {k:IntKind} {w:World} {a:Option Addr} {len cap:Nat} {zs:List Int} (h:IsRow k w a len cap zs):len≤maxLen:=by
 rcases h with ⟨_,rfl,_,_⟩ | ⟨x,h1,h2,h3,_⟩
 ·omega
 omega


theorem P7 {rows:List (List I3)} (hp:Zn rows=true) (h1:T2 rows=0) (h2:Tc rows=0):1≤SO rows∧SO rows≤Mc rows:=by
 have h5:(UD rows).2.2≤5000:=by
  unfold Tc at h2
  rw [if_pos hp] at h2
  split at h2
  ·assumption
  omega
 have h:=GP hp h5
 unfold SO Mc
 rw [if_pos h1,if_pos h2]
 omega

theorem fnClasses_walk (a0:Option Addr) (len0 cap0:Nat) (z0:List Int) (w:World) (h0:IsRow .u8 w a0 len0 cap0 z0) (hV:Ys w) :
  Calls Tryz.prog 3 #[.slice a0 len0 cap0] w fun e w'=>e=.returned (.bool true)∧Below w.heap.size w w':=by
 have m0:=h0.len_le
 unfold maxLen at m0
 by_cases hb0:1048576<len0
 ·go_enter Tryz.func3,Tryz.ntmps3
  go_wp2
  go_ret
  exact ⟨rfl,Below.refl _ _⟩
 have l0:len0≤1048576:=by omega
 clear hb0 m0
 go_enter Tryz.func3,Tryz.ntmps3
 go_wp2_with fail
 refine (R7 _ _ _ z0 _ h0 l0).mono ?_
 rintro e w1 ⟨⟨v,rows,hok,rfl,ho⟩,bw⟩
 have h3:=(Y9 hok.1).1
 obtain ⟨a,cap,hv⟩:=ho.slice
 rw [h3] at hv
 subst hv
 have hC:=ho.codes (fun r hr x hx=>Hs ((Y9 hok.1).2 r hr |>.2 x hx))
 replace hV:=hV.below bw
 have HL:Hid (T2 rows=0→Tc rows=0→1≤SO rows∧SO rows≤Mc rows):=fun h h'=>P7 hok.1 h h'
 have hcf:Xi rows=0:=by
  have:=M3 hok.1 hok.2.1 hok.2.2.1 hok.2.2.2
  unfold Xi
  rw [if_pos hok.1,if_pos (by omega)]
 have hok1:=hok.1
 have kI:=fun (W:World) (b:Below w1.heap.size w1 W)=>T5 a 3 cap rows W (hC.below b) (hV.below b) hcf
 have kS:=fun (W:World) (b:Below w1.heap.size w1 W)=>Sp a 3 cap rows W (hC.below b)
 have kB:=fun (W:World) (b:Below w1.heap.size w1 W)=>PA a 3 cap rows W (hC.below b) (hV.below b) hok1
 generalize Tc rows=sc at *
 generalize Gd rows=sb at *
 generalize Mc rows=sr at *
 generalize Ge rows=sn at *
 generalize T2 rows=cc at *
 generalize SO rows=cv at *
 clear ho h0 h3 hC hV hok hcf hok1
 have ha:Below w1.heap.size w1 (w1.alloc (.cells #[.slice a 3 cap] 25)):=by go_grown
 have pP:Blk (w1.alloc (.cells #[.slice a 3 cap] 25)) w1.heap.size 25 [.slice a 3 cap]:=Zo _ _ _ rfl
 have b1:=ha
 replace bw:=Zb bw ha
 clear ha
 go_wp2_with (first | refine Zc rfl 25 _ rfl w1.heap.size rfl pP _ Tryz.underlying25 rfl (by kernel_rfl) ?_)
 generalize (w1.alloc (.cells #[.slice a 3 cap] 25))=U at *
 have kIx:=kI U b1
 clear kI
 obtain ⟨P,hP⟩:∃ P,P=w1.heap.size:=⟨_,rfl⟩
 rw [← hP] at pP ⊢
 clear hP
 refine kIx.mono ?_
 rintro e u1 ⟨rfl,hb⟩
 replace b1:=Zb b1 hb
 replace bw:=Zb bw hb
 replace pP:=pP.below hb
 clear hb kIx
 have kSx:=kS u1 b1
 go_wp2_with (first | refine Zc rfl 25 _ rfl P rfl pP _ Tryz.underlying25 rfl (by kernel_rfl) ?_)
 refine kSx.mono ?_
 rintro e u2 ⟨rfl,hb⟩
 replace b1:=Zb b1 hb
 replace bw:=Zb bw hb
 replace pP:=pP.below hb
 clear hb kSx kS
 have kBx:=kB u2 b1
 go_wp2_with (first | refine Zc rfl 25 _ rfl P rfl pP _ Tryz.underlying25 rfl (by kernel_rfl) ?_)
 refine kBx.mono ?_
 rintro e u3 ⟨⟨vR,rfl,qR⟩,hb⟩
 obtain ⟨vRa,vRc,rfl⟩:=Gb qR
 replace b1:=Zb b1 hb
 replace bw:=Zb bw hb
 replace pP:=pP.below hb
 clear hb kBx kB qR
 have pN:=Blk.new u3 31 [.slice none 0 0,.int .i64 0,.int .i64 0]
 have ha:Below u3.heap.size u3 (u3.alloc (.cells #[.slice none 0 0,.int .i64 0,.int .i64 0] 31)):=by go_grown
 go_wp2_with (refine Zd rfl 31 _ _ rfl u3.heap.size [.slice vRa sb.length vRc,.int .i64 sr,.int .i64 sn] rfl rfl pN (by kernel_rfl) rfl rfl ?_)
 intro u4 p9 g9
 have pR:=p9.out
 have hb:Below u3.heap.size u3 u4:=ha.grown g9 ha.size (fun q e=>by cases e;exact Nat.le_refl _)
 replace b1:=Zb b1 hb
 replace bw:=Zb bw hb
 replace pP:=pP.below hb
 clear p9 g9 ha pN hb
 generalize u3.heap.size=Y at *
 have r1:u4.cell? ⟨Y,1,none⟩=some (.int .i64 sr):=by simpa using pR.cell 1
 have e1:(cc != cc)=false:=by simp
 have e2:(cv != cv)=false:=by simp
 clear pR pP b1
 by_cases hc:cc=0
 ·subst hc
  by_cases hs:sc=0
  ·subst hs
   obtain ⟨g1,g2⟩:=HL.out rfl rfl
   clear HL
   go_wp2
   go_ret
   exact ⟨rfl,bw⟩
  have hsn:(sc != 0)=true:=by simpa using hs
  clear HL
  go_wp2
  go_ret
  exact ⟨rfl,bw⟩
 have hcn:(cc != 0)=true:=by simpa using hc
 clear HL
 go_wp2
 go_ret
 exact ⟨rfl,bw⟩

theorem fnClasses_laid {W:World} (h:laidMetH Tryz.prog Rows.fnClassesRow.laid W):Ys W:=SV rfl h
theorem fnClasses_door_met (os:Os) (args:Array Value):laidMetH Tryz.prog Rows.fnClassesRow.laid ((World.doorLaid Tryz.prog 400 os).forCall (fun _ _=>0) ⟨#[],args,[]⟩).memory:=
 laidMetH_of_parts3 (fuel:=8) (laidMet_of_run' 8 (by kernel_rfl) (by kernel_rfl)) (by kernel_rfl) (by kernel_rfl)


def LX (P:Program) (ns:List String):Bool:=ns.all fun n =>
 match P.globalNamed n with
 | some g=>match (P.globals[g]?).map (·.type) with
  | some t=>P.readableRec t && decide (t<P.types.size)
  | none=>false
 | none=>false

theorem var?_lt {P:Program} {W:World} {n:String} {g:Nat} {cs:Array Value} (hg:P.globalNamed n=some g) (hv:W.var? P n=some cs):g<W.heap.size:=by
 rcases Nat.lt_or_ge g W.heap.size with h | h
 ·exact h
 unfold World.var? at hv
 simp [hg,Array.getElem?_eq_none h] at hv

theorem vars_below {H:Type} {enc:TypeId × Value→H} {P:Program} {W W':World} (hl:laidOutB P=true) (bel:Below W.heap.size W W') :
  ∀ {ns:List String} {gs:List (DataW H)} {ps:List MemPlace},LX P ns=true→DataW.TrodVars enc P W (fun _=>true) ns gs ps→DataW.TrodVars enc P W' (fun b=>decide (b<W.heap.size)) ns gs ps
 | [],[],ps,_,h=>h
 | [],_::_,_,_,h=>by cases h
 | _::_,[],_,_,h=>by cases h
 | n::ns,d::ds,ps,hf,h=>by
  obtain ⟨g,t,cs,fuel,p,q,hg,ht,hv,hd,hr,e⟩:=h
  simp only [LX,List.all_cons,Bool.and_eq_true] at hf
  obtain ⟨hf1,hf2⟩:=hf
  rw [hg] at hf1
  simp only [ht,Bool.and_eq_true,decide_eq_true_eq] at hf1
  obtain ⟨fuel',hd'⟩:=Below.trod hl hf1.1 hf1.2 (v:=.agg cs) (⟨fuel,by simpa [Value.cells] using hd⟩:DataW.Trod enc P W 0 (fun _=>true) true t (.agg cs) d p) bel (DataW.trod_lt fuel _ _ _ hd)
  exact ⟨g,t,cs,fuel',p,q,hg,ht,var?_below bel hg (var?_lt hg hv) hv,by simpa [Value.cells] using hd',vars_below hl bel hf2 hr,e⟩

theorem vars_len {H:Type} {enc:TypeId × Value→H} {P:Program} {W:World} {spare:Nat→Bool}:∀ {ns:List String} {gs:List (DataW H)} {ps:List MemPlace},DataW.TrodVars enc P W spare ns gs ps→gs.length=ns.length
 | [],[],_,_=>rfl
 | [],_::_,_,h=>by cases h
 | _::_,[],_,h=>by cases h
 | _::_,_::_,_,h=>by
  obtain ⟨_,_,_,_,_,_,_,_,_,_,hr,_⟩:=h
  simp [vars_len hr]
end Go.Proofs.YtmhlokahmblboaaGreatDoor
