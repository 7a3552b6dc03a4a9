/-
  Joined: RpF, RyE, SortL.
-/
import Derived.Test.YtmhngodbnoonhaaGreatDoorProg
import Derived.Deep.RegionHeld3
import Derived.KernelRfl
import Derived.Tactics
import Derived.WalkKit
import Derived.WalkSpells
import Derived.WalkLawsBesides
import Derived.RegionTactic
import Derived.BigQuiet
import Derived.Deep.QuietTactic
import Derived.Deep.Slices
import Derived.Deep.Strs
import Derived.Deep.Fields
import Derived.ChangeSame
import Derived.ChangeSlices
import Derived.Lib.SmallJoins
import Derived.Handy
import Derived.OwnWalk
import Derived.Shelf.Abstract
import Derived.Laws.BytesArg
import Derived.Deep.RegionLaw
import Derived.Laws.OwnMore
import Derived.Laws.CopyOwn
import Derived.Laws.Tables
import Derived.BigRegion
import Derived.Maps.AppendAt
import Derived.Laws.RangeString
import Derived.Laws.RangeAny
import Derived.Laws.Bits
import Derived.Lib.FieldsP
import Derived.Stop.Asserts
import Derived.Recover
import Derived.Shelf.SlSortCmp.NoneTotal
import Derived.Test.YtmhngodbnoonhaaGreatDoorK01
import Derived.Test.YtmhngodbnoonhaaGreatDoorK02
import Derived.Test.YtmhngodbnoonhaaGreatDoorK04
import Derived.Test.YtmhngodbnoonhaaGreatDoorK07
import Derived.Test.YtmhngodbnoonhaaGreatDoorK08
import Derived.Test.YtmhngodbnoonhaaGreatDoorK10
import Derived.Test.YtmhngodbnoonhaaGreatDoorK11
import Derived.Test.YtmhngodbnoonhaaGreatDoorK12
import Derived.Test.YtmhngodbnoonhaaGreatDoorK13
import Derived.Test.YtmhngodbnoonhaaGreatDoorK14
import Derived.Test.YtmhngodbnoonhaaGreatDoorK15
import Derived.Test.YtmhngodbnoonhaaGreatDoorK23
import Derived.Test.YtmhngodbnoonhaaGreatDoorK25
import Derived.Test.YtmhngodbnoonhaaGreatDoorK29
import Derived.Test.YtmhngodbnoonhaaGreatDoorK31
import Derived.Test.YtmhngodbnoonhaaGreatDoorK33
import Derived.Test.YtmhngodbnoonhaaGreatDoorK35

/-
  A new replay.
-/
namespace Go.Proofs.YtmhngodbnoonhaaGreatDoor
open Go.RowKit
set_option linter.unusedVariables false
set_option linter.unusedSimpArgs false

set_option maxHeartbeats 4000000 in
set_option maxRecDepth 100000 in
theorem newReplay_of (a : Option Addr) (len cap : Nat) (w : World) (c : Int) (da0 : Option Addr) (dn0 dc0 : Nat) (da1 : Option Addr) (dn1 dc1 : Nat) (da2 : Option Addr) (dn2 dc2 : Nat) (p0 p1 p2 v0 v1 v2 v3 h0 h1 x0 y0 x1 y1 x2 y2 : Int)
    (kM : ∀ (W : World) (s : S4), Below w.heap.size w W → Vmem W s zeroV → Calls Tryz.prog 61 #[.agg #[.slice a len cap], s.val] W fun e w' => e = .returned (.tuple #[.agg #[.slice da0 dn0 dc0, .int .i64 p0, .int .i64 x0, .int .i64 y0, .slice da1 dn1 dc1, .int .i64 p1, .int .i64 x1, .int .i64 y1, .slice da2 dn2 dc2, .int .i64 p2, .int .i64 x2, .int .i64 y2, .int .i64 v0, .int .i64 v1, .int .i64 v2, .int .i64 v3, .int .i64 h0, .int .i64 h1], .int .i64 c]) ∧ Below W.heap.size W w') :
    Calls Tryz.prog 35 #[.agg #[.slice a len cap]] w fun e w' => e = .returned (.tuple #[.agg #[.slice da0 dn0 dc0, .int .i64 p0, .int .i64 x0, .int .i64 y0, .slice da1 dn1 dc1, .int .i64 p1, .int .i64 x1, .int .i64 y1, .slice da2 dn2 dc2, .int .i64 p2, .int .i64 x2, .int .i64 y2, .int .i64 v0, .int .i64 v1, .int .i64 v2, .int .i64 v3, .int .i64 h0, .int .i64 h1, .slice none 0 0], .int .i64 c]) ∧ Below w.heap.size w w' := by
  have fz := (shape_fits9 zero_shape).1
  have kN := implNewVm_is
  have bw : Below w.heap.size w ((w.alloc (.cells #[.slice a len cap] 25)).alloc (.cells #[.slice none 0 0, .int .i64 0, .int .i64 0, .int .i64 0, .slice none 0 0, .int .i64 0, .int .i64 0, .int .i64 0, .slice none 0 0, .int .i64 0, .int .i64 0, .int .i64 0, .int .i64 0, .int .i64 0, .int .i64 0, .int .i64 0, .int .i64 0, .int .i64 0, .slice none 0 0] 73)) := by go_grown
  have pP : Blk ((w.alloc (.cells #[.slice a len cap] 25)).alloc (.cells #[.slice none 0 0, .int .i64 0, .int .i64 0, .int .i64 0, .slice none 0 0, .int .i64 0, .int .i64 0, .int .i64 0, .slice none 0 0, .int .i64 0, .int .i64 0, .int .i64 0, .int .i64 0, .int .i64 0, .int .i64 0, .int .i64 0, .int .i64 0, .int .i64 0, .slice none 0 0] 73)) w.heap.size 25 [.slice a len cap] := blkOld _ (blkAt _ _ _ rfl)
  have pR : Blk ((w.alloc (.cells #[.slice a len cap] 25)).alloc (.cells #[.slice none 0 0, .int .i64 0, .int .i64 0, .int .i64 0, .slice none 0 0, .int .i64 0, .int .i64 0, .int .i64 0, .slice none 0 0, .int .i64 0, .int .i64 0, .int .i64 0, .int .i64 0, .int .i64 0, .int .i64 0, .int .i64 0, .int .i64 0, .int .i64 0, .slice none 0 0] 73)) (w.heap.size + 1) 73 [.slice none 0 0, .int .i64 0, .int .i64 0, .int .i64 0, .slice none 0 0, .int .i64 0, .int .i64 0, .int .i64 0, .slice none 0 0, .int .i64 0, .int .i64 0, .int .i64 0, .int .i64 0, .int .i64 0, .int .i64 0, .int .i64 0, .int .i64 0, .int .i64 0, .slice none 0 0] := blkAt _ _ _ (by simp)
  have hsz : w.heap.size + 2 ≤ ((w.alloc (.cells #[.slice a len cap] 25)).alloc (.cells #[.slice none 0 0, .int .i64 0, .int .i64 0, .int .i64 0, .slice none 0 0, .int .i64 0, .int .i64 0, .int .i64 0, .slice none 0 0, .int .i64 0, .int .i64 0, .int .i64 0, .int .i64 0, .int .i64 0, .int .i64 0, .int .i64 0, .int .i64 0, .int .i64 0, .slice none 0 0] 73)).heap.size := by simp
  go_enter Tryz.func35, Tryz.ntmps35
  go_wp2_with fail
  generalize ((w.alloc (.cells #[.slice a len cap] 25)).alloc (.cells #[.slice none 0 0, .int .i64 0, .int .i64 0, .int .i64 0, .slice none 0 0, .int .i64 0, .int .i64 0, .int .i64 0, .slice none 0 0, .int .i64 0, .int .i64 0, .int .i64 0, .int .i64 0, .int .i64 0, .int .i64 0, .int .i64 0, .int .i64 0, .int .i64 0, .slice none 0 0] 73)) = U at *
  have cP : U.cell? ⟨w.heap.size, 0, none⟩ = some (.slice a len cap) := by simpa using pP.cell 0
  refine wp_region_held_drew (S := (fun w' => w'.cell? ⟨w.heap.size, 0, none⟩ = some (.slice a len cap))) (by kernel_rfl) cP (fun hS0 => ?_)
  refine tkm 0 7 (.agg #[.slice a len cap]) ?_
  refine wpAnyH_ready (rs := [1, 6]) (by kernel_rfl) (by simp) ?_
  refine AllReadyH.cons (o := { dst := some 8, op := _, type := _, pos := _, after := _, guard := _ }) rfl (fun K hK => ?_) (AllReadyH.cons (o := { dst := some 4, op := _, type := _, pos := _, after := _, guard := _ }) rfl (fun K hK => ?_) AllReadyH.nil)
  · have hdr : Below U.heap.size U U.drew := by go_grown
    replace cP := cells_kept hdr _ _ cP
    replace pP := pP.below hdr
    replace pR := pR.below hdr
    replace bw := bel_trans bw hdr
    replace hsz : w.heap.size + 2 ≤ U.drew.heap.size := hsz
    clear hdr
    generalize U.drew = Ud at *
    go_simp
    refine (kN _).mono ?_
    rintro e U1 ⟨⟨s4, rfl, hO⟩, hb⟩
    replace cP := cells_kept hb _ _ cP
    replace pP := pP.below hb
    replace pR := pR.below hb
    replace bw := bel_trans bw hb
    replace hsz : w.heap.size + 2 ≤ U1.heap.size := Nat.le_trans hsz hb.size
    go_wp2_with fail
    refine hK.out _ _ cP (fun hS1 => ?_)
    clear hK hb
    try simp only [Act.put, List.setIfInBounds_toArray, List.set_cons_zero, List.set_cons_succ]
    refine wpAnyH_ready (rs := [2, 6]) (by kernel_rfl) (by simp) ?_
    refine AllReadyH.cons (o := { dst := some 9, op := _, type := _, pos := _, after := _, guard := _ }) rfl (fun K hK => ?_) (AllReadyH.cons (o := { dst := some 4, op := _, type := _, pos := _, after := _, guard := _ }) rfl (fun K hK => ?_) AllReadyH.nil)
    · go_simp
      refine (kM _ s4 bw (hO.mem fz)).mono ?_
      rintro e U2 ⟨rfl, hb⟩
      replace cP := cells_kept hb _ _ cP
      replace pP := pP.below hb
      replace pR := pR.below hb
      replace bw := bel_trans bw hb
      replace hO := hO.below hb
      replace hsz : w.heap.size + 2 ≤ U2.heap.size := Nat.le_trans hsz hb.size
      go_wp2_with fail
      refine hK.out _ _ cP (fun hS2 => ?_)
      clear hK hb
      try simp only [Act.put, List.setIfInBounds_toArray, List.set_cons_zero, List.set_cons_succ]
      refine tkm 3 6 (.tuple #[.agg #[.slice da0 dn0 dc0, .int .i64 p0, .int .i64 x0, .int .i64 y0, .slice da1 dn1 dc1, .int .i64 p1, .int .i64 x1, .int .i64 y1, .slice da2 dn2 dc2, .int .i64 p2, .int .i64 x2, .int .i64 y2, .int .i64 v0, .int .i64 v1, .int .i64 v2, .int .i64 v3, .int .i64 h0, .int .i64 h1], .int .i64 c]) ?_
      refine tkm 4 10 (.agg #[.slice da0 dn0 dc0, .int .i64 p0, .int .i64 x0, .int .i64 y0, .slice da1 dn1 dc1, .int .i64 p1, .int .i64 x1, .int .i64 y1, .slice da2 dn2 dc2, .int .i64 p2, .int .i64 x2, .int .i64 y2, .int .i64 v0, .int .i64 v1, .int .i64 v2, .int .i64 v3, .int .i64 h0, .int .i64 h1]) ?_
      refine tkm 5 11 (.int .i64 c) ?_
      refine tkr 6 4 (fun K hK => ?_)
      have hb : Below U2.heap.size U2 (U2.alloc (.cells #[.slice none 0 0, .int .i64 0, .int .i64 0, .int .i64 0, .slice none 0 0, .int .i64 0, .int .i64 0, .int .i64 0, .slice none 0 0, .int .i64 0, .int .i64 0, .int .i64 0, .int .i64 0, .int .i64 0, .int .i64 0, .int .i64 0, .int .i64 0, .int .i64 0] 71)) := by go_grown
      have pM : Blk (U2.alloc (.cells #[.slice none 0 0, .int .i64 0, .int .i64 0, .int .i64 0, .slice none 0 0, .int .i64 0, .int .i64 0, .int .i64 0, .slice none 0 0, .int .i64 0, .int .i64 0, .int .i64 0, .int .i64 0, .int .i64 0, .int .i64 0, .int .i64 0, .int .i64 0, .int .i64 0] 71)) U2.heap.size 71 [.slice none 0 0, .int .i64 0, .int .i64 0, .int .i64 0, .slice none 0 0, .int .i64 0, .int .i64 0, .int .i64 0, .slice none 0 0, .int .i64 0, .int .i64 0, .int .i64 0, .int .i64 0, .int .i64 0, .int .i64 0, .int .i64 0, .int .i64 0, .int .i64 0] := blkAt _ _ _ rfl
      replace cP := cells_kept hb _ _ cP
      replace pP := pP.below hb
      replace pR := pR.below hb
      replace bw := bel_trans bw hb
      replace hO := hO.below hb
      have hXM : w.heap.size + 2 ≤ U2.heap.size := hsz
      replace hsz : w.heap.size + 2 ≤ (U2.alloc (.cells #[.slice none 0 0, .int .i64 0, .int .i64 0, .int .i64 0, .slice none 0 0, .int .i64 0, .int .i64 0, .int .i64 0, .slice none 0 0, .int .i64 0, .int .i64 0, .int .i64 0, .int .i64 0, .int .i64 0, .int .i64 0, .int .i64 0, .int .i64 0, .int .i64 0] 71)).heap.size := Nat.le_trans hsz hb.size
      go_simp
      refine hK.out _ _ cP (fun hS3 => ?_)
      clear hK hb
      generalize (U2.alloc (.cells #[.slice none 0 0, .int .i64 0, .int .i64 0, .int .i64 0, .slice none 0 0, .int .i64 0, .int .i64 0, .int .i64 0, .slice none 0 0, .int .i64 0, .int .i64 0, .int .i64 0, .int .i64 0, .int .i64 0, .int .i64 0, .int .i64 0, .int .i64 0, .int .i64 0] 71)) = U3 at *
      generalize U2.heap.size = XM at *
      try simp only [Act.put, List.setIfInBounds_toArray, List.set_cons_zero, List.set_cons_succ]
      refine wpAnyH_ready (rs := [7]) (by kernel_rfl) (by simp) ?_
      refine AllReadyH.cons (o := { dst := none, op := _, type := _, pos := _, after := _, guard := _ }) rfl (fun K hK => ?_) AllReadyH.nil
      refine step_store_blkD rfl 71 _ _ rfl XM [.slice da0 dn0 dc0, .int .i64 p0, .int .i64 x0, .int .i64 y0, .slice da1 dn1 dc1, .int .i64 p1, .int .i64 x1, .int .i64 y1, .slice da2 dn2 dc2, .int .i64 p2, .int .i64 x2, .int .i64 y2, .int .i64 v0, .int .i64 v1, .int .i64 v2, .int .i64 v3, .int .i64 h0, .int .i64 h1] rfl rfl pM (by kernel_rfl) rfl rfl ?_
      intro U9 pM2 g2
      have hne : w.heap.size ≠ XM := by omega
      have hne1 : w.heap.size + 1 ≠ XM := by omega
      replace pP := pP.kept g2 (fun e => hne (by cases e; rfl))
      replace pR := pR.kept g2 (fun e => hne1 (by cases e; rfl))
      replace bw := bw.grown g2 bw.size (fun k e => by cases e; omega)
      refine hK.out _ _ (by simpa using pP.cell 0) (fun hS9 => ?_)
      clear hK hO
      try simp only [Act.put, List.setIfInBounds_toArray, List.set_cons_zero, List.set_cons_succ]
      refine tkm 8 5 (.int .i64 c) ?_
      refine wpAnyH_done (by kernel_rfl) ?_ _
      clear hS9 cP hS0 pM
      have pM := pM2.out
      clear pM2 pP
      go_wp2_with (first | refine wpList_load_blk rfl 71 _ rfl XM rfl pM _ Tryz.underlying71 rfl (by kernel_rfl) ?_ | refine wpList_store_blk rfl 73 _ _ rfl (w.heap.size + 1) [.slice da0 dn0 dc0, .int .i64 p0, .int .i64 x0, .int .i64 y0, .slice da1 dn1 dc1, .int .i64 p1, .int .i64 x1, .int .i64 y1, .slice da2 dn2 dc2, .int .i64 p2, .int .i64 x2, .int .i64 y2, .int .i64 v0, .int .i64 v1, .int .i64 v2, .int .i64 v3, .int .i64 h0, .int .i64 h1, .slice none 0 0] rfl rfl pR (by kernel_rfl) rfl rfl ?_)
      intro U10 pR2 g3
      have bw2 := bw.grown g3 bw.size (fun k e => by cases e; omega)
      clear bw g2 g3 pM pR
      go_wp2_with fail
      refine bodyPost_ret (results_blk2 Tryz.results35 _ _ _ _ _ _ rfl pR2.out Tryz.underlying73 rfl (by kernel_rfl)) rfl ?_
      exact ⟨rfl, bw2⟩
    · have hb : Below U1.heap.size U1 (U1.alloc (.cells #[.slice none 0 0, .int .i64 0, .int .i64 0, .int .i64 0, .slice none 0 0, .int .i64 0, .int .i64 0, .int .i64 0, .slice none 0 0, .int .i64 0, .int .i64 0, .int .i64 0, .int .i64 0, .int .i64 0, .int .i64 0, .int .i64 0, .int .i64 0, .int .i64 0] 71)) := by go_grown
      have pM : Blk (U1.alloc (.cells #[.slice none 0 0, .int .i64 0, .int .i64 0, .int .i64 0, .slice none 0 0, .int .i64 0, .int .i64 0, .int .i64 0, .slice none 0 0, .int .i64 0, .int .i64 0, .int .i64 0, .int .i64 0, .int .i64 0, .int .i64 0, .int .i64 0, .int .i64 0, .int .i64 0] 71)) U1.heap.size 71 [.slice none 0 0, .int .i64 0, .int .i64 0, .int .i64 0, .slice none 0 0, .int .i64 0, .int .i64 0, .int .i64 0, .slice none 0 0, .int .i64 0, .int .i64 0, .int .i64 0, .int .i64 0, .int .i64 0, .int .i64 0, .int .i64 0, .int .i64 0, .int .i64 0] := blkAt _ _ _ rfl
      replace cP := cells_kept hb _ _ cP
      replace pP := pP.below hb
      replace pR := pR.below hb
      replace bw := bel_trans bw hb
      replace hO := hO.below hb
      have hXM : w.heap.size + 2 ≤ U1.heap.size := hsz
      replace hsz : w.heap.size + 2 ≤ (U1.alloc (.cells #[.slice none 0 0, .int .i64 0, .int .i64 0, .int .i64 0, .slice none 0 0, .int .i64 0, .int .i64 0, .int .i64 0, .slice none 0 0, .int .i64 0, .int .i64 0, .int .i64 0, .int .i64 0, .int .i64 0, .int .i64 0, .int .i64 0, .int .i64 0, .int .i64 0] 71)).heap.size := Nat.le_trans hsz hb.size
      go_simp
      refine hK.out _ _ cP (fun hS4 => ?_)
      clear hK hb
      generalize (U1.alloc (.cells #[.slice none 0 0, .int .i64 0, .int .i64 0, .int .i64 0, .slice none 0 0, .int .i64 0, .int .i64 0, .int .i64 0, .slice none 0 0, .int .i64 0, .int .i64 0, .int .i64 0, .int .i64 0, .int .i64 0, .int .i64 0, .int .i64 0, .int .i64 0, .int .i64 0] 71)) = U4 at *
      generalize U1.heap.size = XM at *
      try simp only [Act.put, List.setIfInBounds_toArray, List.set_cons_zero, List.set_cons_succ]
      refine tkr 2 9 (fun K hK => ?_)
      go_simp
      refine (kM _ s4 bw (hO.mem fz)).mono ?_
      rintro e U5 ⟨rfl, hb⟩
      replace cP := cells_kept hb _ _ cP
      replace pP := pP.below hb
      replace pR := pR.below hb
      replace bw := bel_trans bw hb
      replace pM := pM.below hb
      replace hO := hO.below hb
      replace hsz : w.heap.size + 2 ≤ U5.heap.size := Nat.le_trans hsz hb.size
      go_wp2_with fail
      refine hK.out _ _ cP (fun hS5 => ?_)
      clear hK hb
      try simp only [Act.put, List.setIfInBounds_toArray, List.set_cons_zero, List.set_cons_succ]
      refine tkm 3 6 (.tuple #[.agg #[.slice da0 dn0 dc0, .int .i64 p0, .int .i64 x0, .int .i64 y0, .slice da1 dn1 dc1, .int .i64 p1, .int .i64 x1, .int .i64 y1, .slice da2 dn2 dc2, .int .i64 p2, .int .i64 x2, .int .i64 y2, .int .i64 v0, .int .i64 v1, .int .i64 v2, .int .i64 v3, .int .i64 h0, .int .i64 h1], .int .i64 c]) ?_
      refine tkm 4 10 (.agg #[.slice da0 dn0 dc0, .int .i64 p0, .int .i64 x0, .int .i64 y0, .slice da1 dn1 dc1, .int .i64 p1, .int .i64 x1, .int .i64 y1, .slice da2 dn2 dc2, .int .i64 p2, .int .i64 x2, .int .i64 y2, .int .i64 v0, .int .i64 v1, .int .i64 v2, .int .i64 v3, .int .i64 h0, .int .i64 h1]) ?_
      refine tkm 5 11 (.int .i64 c) ?_
      refine wpAnyH_ready (rs := [7]) (by kernel_rfl) (by simp) ?_
      refine AllReadyH.cons (o := { dst := none, op := _, type := _, pos := _, after := _, guard := _ }) rfl (fun K hK => ?_) AllReadyH.nil
      refine step_store_blkD rfl 71 _ _ rfl XM [.slice da0 dn0 dc0, .int .i64 p0, .int .i64 x0, .int .i64 y0, .slice da1 dn1 dc1, .int .i64 p1, .int .i64 x1, .int .i64 y1, .slice da2 dn2 dc2, .int .i64 p2, .int .i64 x2, .int .i64 y2, .int .i64 v0, .int .i64 v1, .int .i64 v2, .int .i64 v3, .int .i64 h0, .int .i64 h1] rfl rfl pM (by kernel_rfl) rfl rfl ?_
      intro U9 pM2 g2
      have hne : w.heap.size ≠ XM := by omega
      have hne1 : w.heap.size + 1 ≠ XM := by omega
      replace pP := pP.kept g2 (fun e => hne (by cases e; rfl))
      replace pR := pR.kept g2 (fun e => hne1 (by cases e; rfl))
      replace bw := bw.grown g2 bw.size (fun k e => by cases e; omega)
      refine hK.out _ _ (by simpa using pP.cell 0) (fun hS9 => ?_)
      clear hK hO
      try simp only [Act.put, List.setIfInBounds_toArray, List.set_cons_zero, List.set_cons_succ]
      refine tkm 8 5 (.int .i64 c) ?_
      refine wpAnyH_done (by kernel_rfl) ?_ _
      clear hS9 cP hS0 pM
      have pM := pM2.out
      clear pM2 pP
      go_wp2_with (first | refine wpList_load_blk rfl 71 _ rfl XM rfl pM _ Tryz.underlying71 rfl (by kernel_rfl) ?_ | refine wpList_store_blk rfl 73 _ _ rfl (w.heap.size + 1) [.slice da0 dn0 dc0, .int .i64 p0, .int .i64 x0, .int .i64 y0, .slice da1 dn1 dc1, .int .i64 p1, .int .i64 x1, .int .i64 y1, .slice da2 dn2 dc2, .int .i64 p2, .int .i64 x2, .int .i64 y2, .int .i64 v0, .int .i64 v1, .int .i64 v2, .int .i64 v3, .int .i64 h0, .int .i64 h1, .slice none 0 0] rfl rfl pR (by kernel_rfl) rfl rfl ?_)
      intro U10 pR2 g3
      have bw2 := bw.grown g3 bw.size (fun k e => by cases e; omega)
      clear bw g2 g3 pM pR
      go_wp2_with fail
      refine bodyPost_ret (results_blk2 Tryz.results35 _ _ _ _ _ _ rfl pR2.out Tryz.underlying73 rfl (by kernel_rfl)) rfl ?_
      exact ⟨rfl, bw2⟩
  · have hdr : Below U.heap.size U U.drew := by go_grown
    replace cP := cells_kept hdr _ _ cP
    replace pP := pP.below hdr
    replace pR := pR.below hdr
    replace bw := bel_trans bw hdr
    replace hsz : w.heap.size + 2 ≤ U.drew.heap.size := hsz
    clear hdr
    generalize U.drew = Ud at *
    have hb : Below Ud.heap.size Ud (Ud.alloc (.cells #[.slice none 0 0, .int .i64 0, .int .i64 0, .int .i64 0, .slice none 0 0, .int .i64 0, .int .i64 0, .int .i64 0, .slice none 0 0, .int .i64 0, .int .i64 0, .int .i64 0, .int .i64 0, .int .i64 0, .int .i64 0, .int .i64 0, .int .i64 0, .int .i64 0] 71)) := by go_grown
    have pM : Blk (Ud.alloc (.cells #[.slice none 0 0, .int .i64 0, .int .i64 0, .int .i64 0, .slice none 0 0, .int .i64 0, .int .i64 0, .int .i64 0, .slice none 0 0, .int .i64 0, .int .i64 0, .int .i64 0, .int .i64 0, .int .i64 0, .int .i64 0, .int .i64 0, .int .i64 0, .int .i64 0] 71)) Ud.heap.size 71 [.slice none 0 0, .int .i64 0, .int .i64 0, .int .i64 0, .slice none 0 0, .int .i64 0, .int .i64 0, .int .i64 0, .slice none 0 0, .int .i64 0, .int .i64 0, .int .i64 0, .int .i64 0, .int .i64 0, .int .i64 0, .int .i64 0, .int .i64 0, .int .i64 0] := blkAt _ _ _ rfl
    replace cP := cells_kept hb _ _ cP
    replace pP := pP.below hb
    replace pR := pR.below hb
    replace bw := bel_trans bw hb
    have hXM : w.heap.size + 2 ≤ Ud.heap.size := hsz
    replace hsz : w.heap.size + 2 ≤ (Ud.alloc (.cells #[.slice none 0 0, .int .i64 0, .int .i64 0, .int .i64 0, .slice none 0 0, .int .i64 0, .int .i64 0, .int .i64 0, .slice none 0 0, .int .i64 0, .int .i64 0, .int .i64 0, .int .i64 0, .int .i64 0, .int .i64 0, .int .i64 0, .int .i64 0, .int .i64 0] 71)).heap.size := Nat.le_trans hsz hb.size
    go_simp
    refine hK.out _ _ cP (fun hS6 => ?_)
    clear hK hb
    generalize (Ud.alloc (.cells #[.slice none 0 0, .int .i64 0, .int .i64 0, .int .i64 0, .slice none 0 0, .int .i64 0, .int .i64 0, .int .i64 0, .slice none 0 0, .int .i64 0, .int .i64 0, .int .i64 0, .int .i64 0, .int .i64 0, .int .i64 0, .int .i64 0, .int .i64 0, .int .i64 0] 71)) = U6 at *
    generalize Ud.heap.size = XM at *
    try simp only [Act.put, List.setIfInBounds_toArray, List.set_cons_zero, List.set_cons_succ]
    refine tkr 1 8 (fun K hK => ?_)
    go_simp
    refine (kN _).mono ?_
    rintro e U7 ⟨⟨s4, rfl, hO⟩, hb⟩
    replace cP := cells_kept hb _ _ cP
    replace pP := pP.below hb
    replace pR := pR.below hb
    replace bw := bel_trans bw hb
    replace pM := pM.below hb
    replace hsz : w.heap.size + 2 ≤ U7.heap.size := Nat.le_trans hsz hb.size
    go_wp2_with fail
    refine hK.out _ _ cP (fun hS7 => ?_)
    clear hK hb
    try simp only [Act.put, List.setIfInBounds_toArray, List.set_cons_zero, List.set_cons_succ]
    refine tkr 2 9 (fun K hK => ?_)
    go_simp
    refine (kM _ s4 bw (hO.mem fz)).mono ?_
    rintro e U8 ⟨rfl, hb⟩
    replace cP := cells_kept hb _ _ cP
    replace pP := pP.below hb
    replace pR := pR.below hb
    replace bw := bel_trans bw hb
    replace pM := pM.below hb
    replace hO := hO.below hb
    replace hsz : w.heap.size + 2 ≤ U8.heap.size := Nat.le_trans hsz hb.size
    go_wp2_with fail
    refine hK.out _ _ cP (fun hS8 => ?_)
    clear hK hb
    try simp only [Act.put, List.setIfInBounds_toArray, List.set_cons_zero, List.set_cons_succ]
    refine tkm 3 6 (.tuple #[.agg #[.slice da0 dn0 dc0, .int .i64 p0, .int .i64 x0, .int .i64 y0, .slice da1 dn1 dc1, .int .i64 p1, .int .i64 x1, .int .i64 y1, .slice da2 dn2 dc2, .int .i64 p2, .int .i64 x2, .int .i64 y2, .int .i64 v0, .int .i64 v1, .int .i64 v2, .int .i64 v3, .int .i64 h0, .int .i64 h1], .int .i64 c]) ?_
    refine tkm 4 10 (.agg #[.slice da0 dn0 dc0, .int .i64 p0, .int .i64 x0, .int .i64 y0, .slice da1 dn1 dc1, .int .i64 p1, .int .i64 x1, .int .i64 y1, .slice da2 dn2 dc2, .int .i64 p2, .int .i64 x2, .int .i64 y2, .int .i64 v0, .int .i64 v1, .int .i64 v2, .int .i64 v3, .int .i64 h0, .int .i64 h1]) ?_
    refine tkm 5 11 (.int .i64 c) ?_
    refine wpAnyH_ready (rs := [7]) (by kernel_rfl) (by simp) ?_
    refine AllReadyH.cons (o := { dst := none, op := _, type := _, pos := _, after := _, guard := _ }) rfl (fun K hK => ?_) AllReadyH.nil
    refine step_store_blkD rfl 71 _ _ rfl XM [.slice da0 dn0 dc0, .int .i64 p0, .int .i64 x0, .int .i64 y0, .slice da1 dn1 dc1, .int .i64 p1, .int .i64 x1, .int .i64 y1, .slice da2 dn2 dc2, .int .i64 p2, .int .i64 x2, .int .i64 y2, .int .i64 v0, .int .i64 v1, .int .i64 v2, .int .i64 v3, .int .i64 h0, .int .i64 h1] rfl rfl pM (by kernel_rfl) rfl rfl ?_
    intro U9 pM2 g2
    have hne : w.heap.size ≠ XM := by omega
    have hne1 : w.heap.size + 1 ≠ XM := by omega
    replace pP := pP.kept g2 (fun e => hne (by cases e; rfl))
    replace pR := pR.kept g2 (fun e => hne1 (by cases e; rfl))
    replace bw := bw.grown g2 bw.size (fun k e => by cases e; omega)
    refine hK.out _ _ (by simpa using pP.cell 0) (fun hS9 => ?_)
    clear hK hO
    try simp only [Act.put, List.setIfInBounds_toArray, List.set_cons_zero, List.set_cons_succ]
    refine tkm 8 5 (.int .i64 c) ?_
    refine wpAnyH_done (by kernel_rfl) ?_ _
    clear hS9 cP hS0 pM
    have pM := pM2.out
    clear pM2 pP
    go_wp2_with (first | refine wpList_load_blk rfl 71 _ rfl XM rfl pM _ Tryz.underlying71 rfl (by kernel_rfl) ?_ | refine wpList_store_blk rfl 73 _ _ rfl (w.heap.size + 1) [.slice da0 dn0 dc0, .int .i64 p0, .int .i64 x0, .int .i64 y0, .slice da1 dn1 dc1, .int .i64 p1, .int .i64 x1, .int .i64 y1, .slice da2 dn2 dc2, .int .i64 p2, .int .i64 x2, .int .i64 y2, .int .i64 v0, .int .i64 v1, .int .i64 v2, .int .i64 v3, .int .i64 h0, .int .i64 h1, .slice none 0 0] rfl rfl pR (by kernel_rfl) rfl rfl ?_)
    intro U10 pR2 g3
    have bw2 := bw.grown g3 bw.size (fun k e => by cases e; omega)
    clear bw g2 g3 pM pR
    go_wp2_with fail
    refine bodyPost_ret (results_blk2 Tryz.results35 _ _ _ _ _ _ rfl pR2.out Tryz.underlying73 rfl (by kernel_rfl)) rfl ?_
    exact ⟨rfl, bw2⟩

end Go.Proofs.YtmhngodbnoonhaaGreatDoor


/-
  A replay: who can go on, whether nobody can.
-/
namespace Go.Proofs.YtmhngodbnoonhaaGreatDoor
namespace Rp
open Go.RowKit
set_option linter.unusedVariables false
set_option linter.unusedSimpArgs false
variable {fv : Value}

set_option maxHeartbeats 4000000 in
set_option maxRecDepth 100000 in
theorem enabled_is (g : Nat) (cs : Sl × Sl × Sl) (rows : List (List I3)) (m : V4) (w : World) (h : MachAt fv w g cs rows m) (hp : progOk rows = true) (hs : shapeOk m = true) :
    Calls Tryz.prog 96 #[.pointer (some ⟨g, 0, none⟩)] w fun e w' => (∃ s : Sl, e = .returned (.slice s.1 s.2.1 s.2.2) ∧ OwnI w' w.heap.size s (enabM rows m 3)) ∧ Below w.heap.size w w' := by
  obtain ⟨i0, hi, hz0, hz1, hz2⟩ := info_parts info_int
  have kD := fun (W : World) (hM : MachAt fv W g cs rows m) (k : Nat) (hk : k < 3) => doneT_is hM hk
  have kW := fun (W : World) (hM : MachAt fv W g cs rows m) (k : Nat) (hk : k < 3) => waits_is hM hp hs hk
  go_enter Tryz.func96, Tryz.ntmps96
  go_wp2_with fail
  go_loopw [3, 5] (fun so si wr => ∃ (k : Nat) (n : Nat) (v : Value), v = so ∧ k ≤ 3 ∧ si = .int .i64 k ∧ Hid (n = (enabM rows m k).length) ∧ wr.ownsRow w.heap.size 3 1 v n ((enabM rows m k).map (Value.int .i64)) ∧ Below w.heap.size w wr) (fun _ si _ => 3 - (intOf si).toNat)
  case atStart => exact ⟨0, 0, _, rfl, by omega, rfl, rfl, World.ownsRow_nil _ _ _ _, Below.refl _ _⟩
  case round =>
    obtain ⟨k, n, so, rfl, hk, rfl, HN, hr, hbw⟩ := hrel
    have hM := h.below hbw
    by_cases hlt : k < 3
    · have hk3 : (k : Int) < 3 := by omega
      have kD1 := kD _ hM k hlt
      have hsz := hbw.size
      cases hd : doneM rows m k
      · rw [hd] at kD1
        go_wp2_with fail
        refine kD1.mono ?_
        rintro e w1 ⟨rfl, d, rfl⟩
        replace hM : MachAt fv (wr.drewN d) g cs rows m := hM.below (below_dN _)
        replace hr : (wr.drewN d).ownsRow w.heap.size 3 1 so n ((enabM rows m k).map (Value.int .i64)) := hr
        replace hbw : Below w.heap.size w (wr.drewN d) := bel_trans hbw (below_dN _)
        replace hsz : w.heap.size ≤ (wr.drewN d).heap.size := hsz
        generalize wr.drewN d = W1 at *
        have kW1 := kW _ hM k hlt
        clear kD1
        cases hw : waitM rows m k
        · have hcan : canM rows m k = true := by
            unfold waitM at hw
            unfold canM
            rw [hd] at hw ⊢
            simpa using hw
          rw [hw] at kW1
          go_wp2_with fail
          refine kW1.mono ?_
          rintro e w2 ⟨rfl, hb⟩
          replace hM := hM.below hb
          replace hr := owns_below hr hb
          replace hbw := bel_trans hbw hb
          replace hsz := hbw.size
          clear hb kW1
          have hn3 : n ≤ 3 := by have := enabM_len rows m k; have := HN.out; omega
          have HN2 : Hid (n + 1 = (enabM rows m (k + 1)).length) := by rw [Hid, enabM_yes hcan, List.length_append, ← HN.out]; rfl
          have HX : Hid (enabM rows m (k + 1) = enabM rows m k ++ [(k : Int)]) := enabM_yes hcan
          go_wp2_with (at_builtin; refine wpList_append_own _ rfl _ _ 27 rfl w.heap.size 3 i0 (.int .i64 0) 1 8 Tryz.underlying27 hi hz0 hz1 hz2 rfl (by decide) _ _ _ rfl (hr.alloc _) ⟨w2.heap.size, 0, none⟩ 1 1 [.int .i64 (k : Int)] rfl rfl (cell_one_new _ _ _) (by simp [Value.oneCell']) ?c3 ?c4 ?c5 ?_)
          case c3 => unfold maxLen; omega
          case c4 => omega
          case c5 => simp; omega
          intro v' wn hown' hgrow _
          have R : wn.ownsRow w.heap.size 3 1 v' (n + 1) ((enabM rows m (k + 1)).map (Value.int .i64)) := by
            rw [HX.out, List.map_append]
            exact hown'
          have bn : Below w.heap.size w wn := (hbw.alloc hsz _).grown hgrow (by simp; omega) (fun k hk => (hr.lt k hk).1)
          clear hown' hgrow hr hbw hM HX
          go_wp2
          go_roundw
          case rel => exact ⟨k + 1, n + 1, _, rfl, by omega, by go_num, HN2, R, bn⟩
          case measure => simp [intOf]; omega
        · have hcan : canM rows m k = false := by
            unfold waitM at hw
            unfold canM
            rw [hd] at hw ⊢
            simpa using hw
          rw [hw] at kW1
          have HN2 : Hid (n = (enabM rows m (k + 1)).length) := by rw [Hid, enabM_no hcan]; exact HN.out
          rw [← enabM_no hcan] at hr
          go_wp2_with fail
          refine kW1.mono ?_
          rintro e w2 ⟨rfl, hb⟩
          replace hM := hM.below hb
          replace hr := owns_below hr hb
          replace hbw := bel_trans hbw hb
          clear hb kW1
          go_wp2
          go_roundw
          case rel => exact ⟨k + 1, n, _, rfl, by omega, by go_num, HN2, hr, hbw⟩
          case measure => simp [intOf]; omega
      · have hcan : canM rows m k = false := by unfold canM; rw [hd]; rfl
        rw [hd] at kD1
        have HN2 : Hid (n = (enabM rows m (k + 1)).length) := by rw [Hid, enabM_no hcan]; exact HN.out
        rw [← enabM_no hcan] at hr
        go_wp2_with fail
        refine kD1.mono ?_
        rintro e w1 ⟨rfl, d, rfl⟩
        replace hM : MachAt fv (wr.drewN d) g cs rows m := hM.below (below_dN _)
        replace hr : (wr.drewN d).ownsRow w.heap.size 3 1 so n ((enabM rows m (k + 1)).map (Value.int .i64)) := hr
        replace hbw : Below w.heap.size w (wr.drewN d) := bel_trans hbw (below_dN _)
        generalize wr.drewN d = W1 at *
        go_wp2
        go_roundw
        case rel => exact ⟨k + 1, n, _, rfl, by omega, by go_num, HN2, hr, hbw⟩
        case measure => simp [intOf]; omega
    · obtain rfl : k = 3 := by omega
      obtain ⟨a, c, rfl⟩ : ∃ a c, so = .slice a n c := by
        rcases hr.2 with ⟨rfl, rfl⟩ | ⟨g', cap, cur, hv, _⟩
        · exact ⟨none, 0, rfl⟩
        · exact ⟨_, cap, hv⟩
      clear kD kW hM
      go_wp2
      go_ret
      exact ⟨⟨(a, n, c), rfl, hr⟩, hbw⟩
set_option maxHeartbeats 4000000 in
set_option maxRecDepth 100000 in
theorem stuck_is (g : Nat) (cs : Sl × Sl × Sl) (rows : List (List I3)) (m : V4) (w : World) (h : MachAt fv w g cs rows m) (hp : progOk rows = true) (hs : shapeOk m = true) :
    Calls Tryz.prog 69 #[.pointer (some ⟨g, 0, none⟩)] w fun e w' => e = .returned (.bool (stuckM rows m)) ∧ Below w.heap.size w w' := by
  have kE := enabled_is g cs rows m w h hp hs
  have kD := fun (W : World) (hM : MachAt fv W g cs rows m) (k : Nat) (hk : k < 3) => doneT_is hM hk
  obtain ⟨fin, hfin⟩ : ∃ fin, fin = stuckM rows m := ⟨_, rfl⟩
  rw [← hfin]
  have HF : Hid (fin = (decide (enabM rows m 3 = []) && leftM rows m 0)) := hfin
  clear hfin
  go_enter Tryz.func69, Tryz.ntmps69
  go_wp2_with fail
  refine kE.mono ?_
  rintro e w1 ⟨⟨⟨a, n, c⟩, rfl, ho⟩, hb⟩
  have hn : (enabM rows m 3).length = n := by
    have := ho.1
    simpa using this
  clear ho kE
  simp only
  by_cases h0 : n = 0
  · subst h0
    have HL : Hid (fin = leftM rows m 0) := by rw [Hid, HF.out, List.eq_nil_of_length_eq_zero hn]; rfl
    clear HF hn
    go_wp2_with fail
    go_loopw [8] (fun si wr => ∃ k : Nat, k ≤ 3 ∧ si = .int .i64 k ∧ Hid (fin = leftM rows m k) ∧ Below w.heap.size w wr) (fun si _ => 3 - (intOf si).toNat)
    case atStart => exact ⟨0, by omega, rfl, HL, hb⟩
    case round =>
      clear hb HL
      obtain ⟨k, hk, rfl, HL, hbw⟩ := hrel
      by_cases hlt : k < 3
      · have hk3 : (k : Int) < 3 := by omega
        have kD1 := kD _ (h.below hbw) k hlt
        have hst := leftM_step rows m hlt
        have HS : Hid (leftM rows m k = (!doneM rows m k || leftM rows m (k + 1))) := hst
        clear hst
        cases hd : doneM rows m k
        · rw [hd] at kD1
          obtain rfl : fin = true := by rw [HL.out, HS.out, hd]; rfl
          clear HL HS
          go_wp2_with fail
          refine kD1.mono ?_
          rintro e w2 ⟨rfl, d, rfl⟩
          replace hbw : Below w.heap.size w (wr.drewN d) := bel_trans hbw (below_dN _)
          go_wp2
          go_ret
          exact ⟨rfl, hbw⟩
        · rw [hd] at kD1
          have HL2 : Hid (fin = leftM rows m (k + 1)) := by rw [Hid, HL.out, HS.out, hd]; rfl
          clear HL HS
          go_wp2_with fail
          refine kD1.mono ?_
          rintro e w2 ⟨rfl, d, rfl⟩
          replace hbw : Below w.heap.size w (wr.drewN d) := bel_trans hbw (below_dN _)
          generalize wr.drewN d = W1 at *
          go_wp2
          go_roundw
          case rel => exact ⟨k + 1, by omega, by go_num, HL2, hbw⟩
          case measure => simp [intOf]; omega
      · obtain rfl : k = 3 := by omega
        obtain rfl : fin = false := HL.out.trans (leftM_end _ _)
        clear kD HL
        go_wp2
        go_ret
        exact ⟨rfl, hbw⟩
  · obtain rfl : fin = false := by
      rw [HF.out, decide_eq_false]
      · rfl
      · intro e
        rw [e] at hn
        exact h0 hn.symm
    have hpos : (0 : Int) < (n : Int) := by omega
    clear HF hn kD
    go_wp2
    go_ret
    exact ⟨rfl, hb⟩

end Rp
end Go.Proofs.YtmhngodbnoonhaaGreatDoor


/-
  slices.SortFunc at bugs: the library's contract laid at this program in plain words (the table of numbers, a field a fact).
-/
namespace Go.Proofs.YtmhngodbnoonhaaGreatDoor
open Go.RowKit Go.Shelf

def sortBug_ren : Go.Shelf.Ren := ⟨fun | 6 => 98 | 15 => 108 | 14 => 107 | 28 => 121 | 29 => 122 | 20 => 113 | 21 => 114 | 22 => 115 | 23 => 116 | 24 => 117 | 25 => 118 | 26 => 119 | 27 => 120 | 46 => 126 | 47 => 127 | 48 => 128 | 49 => 129 | 50 => 130 | 57 => 132 | n => n, fun | 22 => 34 | 24 => 95 | 25 => 148 | 3 => 3 | 39 => 158 | 0 => 0 | 53 => 171 | 55 => 173 | 4 => 4 | 46 => 164 | 45 => 163 | 50 => 168 | 5 => 5 | 9 => 9 | 66 => 175 | 70 => 179 | 76 => 187 | 77 => 188 | n => n, fun | n => n⟩
theorem sortBug : Go.Proofs.SlLaysF0.n6 Tryz.prog sortBug_ren := {
  mixed := by kernel_rfl
  f6 := ⟨Tryz.f98.name, by decide, Tryz.func98.trans (congrArg some (by kernel_rfl))⟩
  f14 := ⟨Tryz.f107.name, by decide, Tryz.func107.trans (congrArg some (by kernel_rfl))⟩
  f15 := Tryz.func108.trans (congrArg some (by kernel_rfl))
  f20 := ⟨Tryz.f113.name, by decide, Tryz.func113.trans (congrArg some (by kernel_rfl))⟩
  f21 := ⟨Tryz.f114.name, by decide, Tryz.func114.trans (congrArg some (by kernel_rfl))⟩
  f22 := ⟨Tryz.f115.name, by decide, Tryz.func115.trans (congrArg some (by kernel_rfl))⟩
  f23 := ⟨Tryz.f116.name, by decide, Tryz.func116.trans (congrArg some (by kernel_rfl))⟩
  f24 := ⟨Tryz.f117.name, by decide, Tryz.func117.trans (congrArg some (by kernel_rfl))⟩
  f25 := ⟨Tryz.f118.name, by decide, Tryz.func118.trans (congrArg some (by kernel_rfl))⟩
  f26 := ⟨Tryz.f119.name, by decide, Tryz.func119.trans (congrArg some (by kernel_rfl))⟩
  f27 := ⟨Tryz.f120.name, by decide, Tryz.func120.trans (congrArg some (by kernel_rfl))⟩
  f28 := Tryz.func121.trans (congrArg some (by kernel_rfl))
  f29 := Tryz.func122.trans (congrArg some (by kernel_rfl))
  f46 := ⟨Tryz.f126.name, by decide, Tryz.func126.trans (congrArg some (by kernel_rfl))⟩
  f47 := Tryz.func127.trans (congrArg some (by kernel_rfl))
  f48 := Tryz.func128.trans (congrArg some (by kernel_rfl))
  f49 := ⟨Tryz.f129.name, by decide, Tryz.func129.trans (congrArg some (by kernel_rfl))⟩
  f50 := ⟨Tryz.f130.name, by decide, Tryz.func130.trans (congrArg some (by kernel_rfl))⟩
  f57 := ⟨Tryz.f132.name, by decide, Tryz.func132.trans (congrArg some (by kernel_rfl))⟩
  t0 := Tryz.underlying0
  a0 := Tryz.isAgg0
  z0 := Tryz.sizeOf0
  v0 := Tryz.zeroValue0
  t3 := Tryz.underlying3
  a3 := Tryz.isAgg3
  z3 := Tryz.sizeOf3
  v3 := Tryz.zeroValue3
  t4 := Tryz.underlying4
  a4 := Tryz.isAgg4
  z4 := Tryz.sizeOf4
  v4 := Tryz.zeroValue4
  t5 := Tryz.underlying5
  a5 := Tryz.isAgg5
  z5 := Tryz.sizeOf5
  v5 := Tryz.zeroValue5
  t9 := Tryz.underlying9
  a9 := Tryz.isAgg9
  z9 := Tryz.sizeOf9
  v9 := Tryz.zeroValue9
  t22 := Tryz.underlying34
  a22 := Tryz.isAgg34
  z22 := Tryz.sizeOf34
  v22 := Tryz.zeroValue34
  t25 := Tryz.underlying148
  a25 := Tryz.isAgg148
  z25 := Tryz.sizeOf148
  v25 := Tryz.zeroValue148
  t39 := Tryz.underlying158
  a39 := Tryz.isAgg158
  z39 := Tryz.sizeOf158
  v39 := Tryz.zeroValue158
  t45 := Tryz.underlying163
  a45 := Tryz.isAgg163
  z45 := Tryz.sizeOf163
  v45 := Tryz.zeroValue163
  t46 := Tryz.underlying164
  a46 := Tryz.isAgg164
  z46 := Tryz.sizeOf164
  v46 := Tryz.zeroValue164
  t50 := Tryz.underlying168
  a50 := Tryz.isAgg168
  z50 := Tryz.sizeOf168
  v50 := Tryz.zeroValue168
  t53 := Tryz.underlying171
  a53 := Tryz.isAgg171
  z53 := Tryz.sizeOf171
  v53 := Tryz.zeroValue171
  t55 := Tryz.underlying173
  a55 := Tryz.isAgg173
  z55 := Tryz.sizeOf173
  v55 := Tryz.zeroValue173
  t66 := Tryz.underlying175
  a66 := Tryz.isAgg175
  z66 := Tryz.sizeOf175
  v66 := Tryz.zeroValue175
  t70 := Tryz.underlying179
  a70 := Tryz.isAgg179
  z70 := Tryz.sizeOf179
  v70 := Tryz.zeroValue179
  t76 := Tryz.underlying187
  a76 := Tryz.isAgg187
  z76 := Tryz.sizeOf187
  v76 := Tryz.zeroValue187
  t77 := Tryz.underlying188
  a77 := Tryz.isAgg188
  z77 := Tryz.sizeOf188
  v77 := Tryz.zeroValue188 }

end Go.Proofs.YtmhngodbnoonhaaGreatDoor

