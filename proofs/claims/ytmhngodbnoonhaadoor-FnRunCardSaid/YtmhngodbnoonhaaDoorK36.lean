/-
  Joined: RpF, RyE, SortL.
-/
import Derived.Test.YtmhngodbnoonhaaDoorProg
import Derived.Deep.RegionHeld3
import Derived.KernelRfl
import Derived.Tactics
import Derived.WalkKit
import Derived.WalkSpells
import Derived.WalkLawsBesides
import Derived.RegionTactic
import Derived.BigQuiet
import Derived.Deep.QuietTactic
import Derived.Deep.Slices
import Derived.Deep.Strs
import Derived.Deep.Fields
import Derived.ChangeSame
import Derived.ChangeSlices
import Derived.Lib.SmallJoins
import Derived.Handy
import Derived.OwnWalk
import Derived.Shelf.Abstract
import Derived.Laws.BytesArg
import Derived.Deep.RegionLaw
import Derived.Laws.OwnMore
import Derived.BigRegion
import Derived.Laws.CopyOwn
import Derived.Laws.Tables
import Derived.Maps.AppendAt
import Derived.Laws.RangeString
import Derived.Laws.RangeAny
import Derived.Laws.Bits
import Derived.Lib.FieldsP
import Derived.Stop.Asserts
import Derived.Recover
import Derived.Shelf.SlSortCmp.NoneTotal
import Derived.Test.YtmhngodbnoonhaaDoorK01
import Derived.Test.YtmhngodbnoonhaaDoorK02
import Derived.Test.YtmhngodbnoonhaaDoorK04
import Derived.Test.YtmhngodbnoonhaaDoorK07
import Derived.Test.YtmhngodbnoonhaaDoorK09
import Derived.Test.YtmhngodbnoonhaaDoorK10
import Derived.Test.YtmhngodbnoonhaaDoorK11
import Derived.Test.YtmhngodbnoonhaaDoorK12
import Derived.Test.YtmhngodbnoonhaaDoorK13
import Derived.Test.YtmhngodbnoonhaaDoorK14
import Derived.Test.YtmhngodbnoonhaaDoorK23
import Derived.Test.YtmhngodbnoonhaaDoorK25
import Derived.Test.YtmhngodbnoonhaaDoorK27
import Derived.Test.YtmhngodbnoonhaaDoorK29
import Derived.Test.YtmhngodbnoonhaaDoorK33
import Derived.Test.YtmhngodbnoonhaaDoorK35

/-
  A new replay.
-/
namespace Go.Proofs.YtmhngodbnoonhaaDoor
open Go.RowKit
set_option linter.unusedVariables false
set_option linter.unusedSimpArgs false

set_option maxHeartbeats 4000000 in
set_option maxRecDepth 100000 in
theorem newReplay_of (a : Option Addr) (len cap : Nat) (w : World) (c : Int) (da0 : Option Addr) (dn0 dc0 : Nat) (da1 : Option Addr) (dn1 dc1 : Nat) (da2 : Option Addr) (dn2 dc2 : Nat) (p0 p1 p2 v0 v1 v2 v3 h0 h1 x0 y0 x1 y1 x2 y2 : Int)
    (kM : ∀ (W : World) (s : S4), Below w.heap.size w W → Vmem W s zeroV → Calls Tryd.prog 89 #[.agg #[.slice a len cap], s.val] W fun e w' => e = .returned (.tuple #[.agg #[.slice da0 dn0 dc0, .int .i64 p0, .int .i64 x0, .int .i64 y0, .slice da1 dn1 dc1, .int .i64 p1, .int .i64 x1, .int .i64 y1, .slice da2 dn2 dc2, .int .i64 p2, .int .i64 x2, .int .i64 y2, .int .i64 v0, .int .i64 v1, .int .i64 v2, .int .i64 v3, .int .i64 h0, .int .i64 h1], .int .i64 c]) ∧ Below W.heap.size W w') :
    Calls Tryd.prog 50 #[.agg #[.slice a len cap]] w fun e w' => e = .returned (.tuple #[.agg #[.slice da0 dn0 dc0, .int .i64 p0, .int .i64 x0, .int .i64 y0, .slice da1 dn1 dc1, .int .i64 p1, .int .i64 x1, .int .i64 y1, .slice da2 dn2 dc2, .int .i64 p2, .int .i64 x2, .int .i64 y2, .int .i64 v0, .int .i64 v1, .int .i64 v2, .int .i64 v3, .int .i64 h0, .int .i64 h1, .slice none 0 0], .int .i64 c]) ∧ Below w.heap.size w w' := by
  have fz := (shape_fits9 zero_shape).1
  have kN := implNewVm_is
  have bw : Below w.heap.size w ((w.alloc (.cells #[.slice a len cap] 25)).alloc (.cells #[.slice none 0 0, .int .i64 0, .int .i64 0, .int .i64 0, .slice none 0 0, .int .i64 0, .int .i64 0, .int .i64 0, .slice none 0 0, .int .i64 0, .int .i64 0, .int .i64 0, .int .i64 0, .int .i64 0, .int .i64 0, .int .i64 0, .int .i64 0, .int .i64 0, .slice none 0 0] 88)) := by go_grown
  have pP : Blk ((w.alloc (.cells #[.slice a len cap] 25)).alloc (.cells #[.slice none 0 0, .int .i64 0, .int .i64 0, .int .i64 0, .slice none 0 0, .int .i64 0, .int .i64 0, .int .i64 0, .slice none 0 0, .int .i64 0, .int .i64 0, .int .i64 0, .int .i64 0, .int .i64 0, .int .i64 0, .int .i64 0, .int .i64 0, .int .i64 0, .slice none 0 0] 88)) w.heap.size 25 [.slice a len cap] := blkOld _ (blkAt _ _ _ rfl)
  have pR : Blk ((w.alloc (.cells #[.slice a len cap] 25)).alloc (.cells #[.slice none 0 0, .int .i64 0, .int .i64 0, .int .i64 0, .slice none 0 0, .int .i64 0, .int .i64 0, .int .i64 0, .slice none 0 0, .int .i64 0, .int .i64 0, .int .i64 0, .int .i64 0, .int .i64 0, .int .i64 0, .int .i64 0, .int .i64 0, .int .i64 0, .slice none 0 0] 88)) (w.heap.size + 1) 88 [.slice none 0 0, .int .i64 0, .int .i64 0, .int .i64 0, .slice none 0 0, .int .i64 0, .int .i64 0, .int .i64 0, .slice none 0 0, .int .i64 0, .int .i64 0, .int .i64 0, .int .i64 0, .int .i64 0, .int .i64 0, .int .i64 0, .int .i64 0, .int .i64 0, .slice none 0 0] := blkAt _ _ _ (by simp)
  have hsz : w.heap.size + 2 ≤ ((w.alloc (.cells #[.slice a len cap] 25)).alloc (.cells #[.slice none 0 0, .int .i64 0, .int .i64 0, .int .i64 0, .slice none 0 0, .int .i64 0, .int .i64 0, .int .i64 0, .slice none 0 0, .int .i64 0, .int .i64 0, .int .i64 0, .int .i64 0, .int .i64 0, .int .i64 0, .int .i64 0, .int .i64 0, .int .i64 0, .slice none 0 0] 88)).heap.size := by simp
  go_enter Tryd.func50, Tryd.ntmps50
  go_wp2_with fail
  generalize ((w.alloc (.cells #[.slice a len cap] 25)).alloc (.cells #[.slice none 0 0, .int .i64 0, .int .i64 0, .int .i64 0, .slice none 0 0, .int .i64 0, .int .i64 0, .int .i64 0, .slice none 0 0, .int .i64 0, .int .i64 0, .int .i64 0, .int .i64 0, .int .i64 0, .int .i64 0, .int .i64 0, .int .i64 0, .int .i64 0, .slice none 0 0] 88)) = U at *
  have cP : U.cell? ⟨w.heap.size, 0, none⟩ = some (.slice a len cap) := by simpa using pP.cell 0
  refine wp_region_held_drew (S := (fun w' => w'.cell? ⟨w.heap.size, 0, none⟩ = some (.slice a len cap))) (by kernel_rfl) cP (fun hS0 => ?_)
  refine tkm 0 7 (.agg #[.slice a len cap]) ?_
  refine wpAnyH_ready (rs := [1, 6]) (by kernel_rfl) (by simp) ?_
  refine AllReadyH.cons (o := { dst := some 8, op := _, type := _, pos := _, after := _, guard := _ }) rfl (fun K hK => ?_) (AllReadyH.cons (o := { dst := some 4, op := _, type := _, pos := _, after := _, guard := _ }) rfl (fun K hK => ?_) AllReadyH.nil)
  · have hdr : Below U.heap.size U U.drew := by go_grown
    replace cP := cells_kept hdr _ _ cP
    replace pP := pP.below hdr
    replace pR := pR.below hdr
    replace bw := bel_trans bw hdr
    replace hsz : w.heap.size + 2 ≤ U.drew.heap.size := hsz
    clear hdr
    generalize U.drew = Ud at *
    go_simp
    refine (kN _).mono ?_
    rintro e U1 ⟨⟨s4, rfl, hO⟩, hb⟩
    replace cP := cells_kept hb _ _ cP
    replace pP := pP.below hb
    replace pR := pR.below hb
    replace bw := bel_trans bw hb
    replace hsz : w.heap.size + 2 ≤ U1.heap.size := Nat.le_trans hsz hb.size
    go_wp2_with fail
    refine hK.out _ _ cP (fun hS1 => ?_)
    clear hK hb
    try simp only [Act.put, List.setIfInBounds_toArray, List.set_cons_zero, List.set_cons_succ]
    refine wpAnyH_ready (rs := [2, 6]) (by kernel_rfl) (by simp) ?_
    refine AllReadyH.cons (o := { dst := some 9, op := _, type := _, pos := _, after := _, guard := _ }) rfl (fun K hK => ?_) (AllReadyH.cons (o := { dst := some 4, op := _, type := _, pos := _, after := _, guard := _ }) rfl (fun K hK => ?_) AllReadyH.nil)
    · go_simp
      refine (kM _ s4 bw (hO.mem fz)).mono ?_
      rintro e U2 ⟨rfl, hb⟩
      replace cP := cells_kept hb _ _ cP
      replace pP := pP.below hb
      replace pR := pR.below hb
      replace bw := bel_trans bw hb
      replace hO := hO.below hb
      replace hsz : w.heap.size + 2 ≤ U2.heap.size := Nat.le_trans hsz hb.size
      go_wp2_with fail
      refine hK.out _ _ cP (fun hS2 => ?_)
      clear hK hb
      try simp only [Act.put, List.setIfInBounds_toArray, List.set_cons_zero, List.set_cons_succ]
      refine tkm 3 6 (.tuple #[.agg #[.slice da0 dn0 dc0, .int .i64 p0, .int .i64 x0, .int .i64 y0, .slice da1 dn1 dc1, .int .i64 p1, .int .i64 x1, .int .i64 y1, .slice da2 dn2 dc2, .int .i64 p2, .int .i64 x2, .int .i64 y2, .int .i64 v0, .int .i64 v1, .int .i64 v2, .int .i64 v3, .int .i64 h0, .int .i64 h1], .int .i64 c]) ?_
      refine tkm 4 10 (.agg #[.slice da0 dn0 dc0, .int .i64 p0, .int .i64 x0, .int .i64 y0, .slice da1 dn1 dc1, .int .i64 p1, .int .i64 x1, .int .i64 y1, .slice da2 dn2 dc2, .int .i64 p2, .int .i64 x2, .int .i64 y2, .int .i64 v0, .int .i64 v1, .int .i64 v2, .int .i64 v3, .int .i64 h0, .int .i64 h1]) ?_
      refine tkm 5 11 (.int .i64 c) ?_
      refine tkr 6 4 (fun K hK => ?_)
      have hb : Below U2.heap.size U2 (U2.alloc (.cells #[.slice none 0 0, .int .i64 0, .int .i64 0, .int .i64 0, .slice none 0 0, .int .i64 0, .int .i64 0, .int .i64 0, .slice none 0 0, .int .i64 0, .int .i64 0, .int .i64 0, .int .i64 0, .int .i64 0, .int .i64 0, .int .i64 0, .int .i64 0, .int .i64 0] 86)) := by go_grown
      have pM : Blk (U2.alloc (.cells #[.slice none 0 0, .int .i64 0, .int .i64 0, .int .i64 0, .slice none 0 0, .int .i64 0, .int .i64 0, .int .i64 0, .slice none 0 0, .int .i64 0, .int .i64 0, .int .i64 0, .int .i64 0, .int .i64 0, .int .i64 0, .int .i64 0, .int .i64 0, .int .i64 0] 86)) U2.heap.size 86 [.slice none 0 0, .int .i64 0, .int .i64 0, .int .i64 0, .slice none 0 0, .int .i64 0, .int .i64 0, .int .i64 0, .slice none 0 0, .int .i64 0, .int .i64 0, .int .i64 0, .int .i64 0, .int .i64 0, .int .i64 0, .int .i64 0, .int .i64 0, .int .i64 0] := blkAt _ _ _ rfl
      replace cP := cells_kept hb _ _ cP
      replace pP := pP.below hb
      replace pR := pR.below hb
      replace bw := bel_trans bw hb
      replace hO := hO.below hb
      have hXM : w.heap.size + 2 ≤ U2.heap.size := hsz
      replace hsz : w.heap.size + 2 ≤ (U2.alloc (.cells #[.slice none 0 0, .int .i64 0, .int .i64 0, .int .i64 0, .slice none 0 0, .int .i64 0, .int .i64 0, .int .i64 0, .slice none 0 0, .int .i64 0, .int .i64 0, .int .i64 0, .int .i64 0, .int .i64 0, .int .i64 0, .int .i64 0, .int .i64 0, .int .i64 0] 86)).heap.size := Nat.le_trans hsz hb.size
      go_simp
      refine hK.out _ _ cP (fun hS3 => ?_)
      clear hK hb
      generalize (U2.alloc (.cells #[.slice none 0 0, .int .i64 0, .int .i64 0, .int .i64 0, .slice none 0 0, .int .i64 0, .int .i64 0, .int .i64 0, .slice none 0 0, .int .i64 0, .int .i64 0, .int .i64 0, .int .i64 0, .int .i64 0, .int .i64 0, .int .i64 0, .int .i64 0, .int .i64 0] 86)) = U3 at *
      generalize U2.heap.size = XM at *
      try simp only [Act.put, List.setIfInBounds_toArray, List.set_cons_zero, List.set_cons_succ]
      refine wpAnyH_ready (rs := [7]) (by kernel_rfl) (by simp) ?_
      refine AllReadyH.cons (o := { dst := none, op := _, type := _, pos := _, after := _, guard := _ }) rfl (fun K hK => ?_) AllReadyH.nil
      refine step_store_blkD rfl 86 _ _ rfl XM [.slice da0 dn0 dc0, .int .i64 p0, .int .i64 x0, .int .i64 y0, .slice da1 dn1 dc1, .int .i64 p1, .int .i64 x1, .int .i64 y1, .slice da2 dn2 dc2, .int .i64 p2, .int .i64 x2, .int .i64 y2, .int .i64 v0, .int .i64 v1, .int .i64 v2, .int .i64 v3, .int .i64 h0, .int .i64 h1] rfl rfl pM (by kernel_rfl) rfl rfl ?_
      intro U9 pM2 g2
      have hne : w.heap.size ≠ XM := by omega
      have hne1 : w.heap.size + 1 ≠ XM := by omega
      replace pP := pP.kept g2 (fun e => hne (by cases e; rfl))
      replace pR := pR.kept g2 (fun e => hne1 (by cases e; rfl))
      replace bw := bw.grown g2 bw.size (fun k e => by cases e; omega)
      refine hK.out _ _ (by simpa using pP.cell 0) (fun hS9 => ?_)
      clear hK hO
      try simp only [Act.put, List.setIfInBounds_toArray, List.set_cons_zero, List.set_cons_succ]
      refine tkm 8 5 (.int .i64 c) ?_
      refine wpAnyH_done (by kernel_rfl) ?_ _
      clear hS9 cP hS0 pM
      have pM := pM2.out
      clear pM2 pP
      go_wp2_with (first | refine wpList_load_blk rfl 86 _ rfl XM rfl pM _ Tryd.underlying86 rfl (by kernel_rfl) ?_ | refine wpList_store_blk rfl 88 _ _ rfl (w.heap.size + 1) [.slice da0 dn0 dc0, .int .i64 p0, .int .i64 x0, .int .i64 y0, .slice da1 dn1 dc1, .int .i64 p1, .int .i64 x1, .int .i64 y1, .slice da2 dn2 dc2, .int .i64 p2, .int .i64 x2, .int .i64 y2, .int .i64 v0, .int .i64 v1, .int .i64 v2, .int .i64 v3, .int .i64 h0, .int .i64 h1, .slice none 0 0] rfl rfl pR (by kernel_rfl) rfl rfl ?_)
      intro U10 pR2 g3
      have bw2 := bw.grown g3 bw.size (fun k e => by cases e; omega)
      clear bw g2 g3 pM pR
      go_wp2_with fail
      refine bodyPost_ret (results_blk2 Tryd.results50 _ _ _ _ _ _ rfl pR2.out Tryd.underlying88 rfl (by kernel_rfl)) rfl ?_
      exact ⟨rfl, bw2⟩
    · have hb : Below U1.heap.size U1 (U1.alloc (.cells #[.slice none 0 0, .int .i64 0, .int .i64 0, .int .i64 0, .slice none 0 0, .int .i64 0, .int .i64 0, .int .i64 0, .slice none 0 0, .int .i64 0, .int .i64 0, .int .i64 0, .int .i64 0, .int .i64 0, .int .i64 0, .int .i64 0, .int .i64 0, .int .i64 0] 86)) := by go_grown
      have pM : Blk (U1.alloc (.cells #[.slice none 0 0, .int .i64 0, .int .i64 0, .int .i64 0, .slice none 0 0, .int .i64 0, .int .i64 0, .int .i64 0, .slice none 0 0, .int .i64 0, .int .i64 0, .int .i64 0, .int .i64 0, .int .i64 0, .int .i64 0, .int .i64 0, .int .i64 0, .int .i64 0] 86)) U1.heap.size 86 [.slice none 0 0, .int .i64 0, .int .i64 0, .int .i64 0, .slice none 0 0, .int .i64 0, .int .i64 0, .int .i64 0, .slice none 0 0, .int .i64 0, .int .i64 0, .int .i64 0, .int .i64 0, .int .i64 0, .int .i64 0, .int .i64 0, .int .i64 0, .int .i64 0] := blkAt _ _ _ rfl
      replace cP := cells_kept hb _ _ cP
      replace pP := pP.below hb
      replace pR := pR.below hb
      replace bw := bel_trans bw hb
      replace hO := hO.below hb
      have hXM : w.heap.size + 2 ≤ U1.heap.size := hsz
      replace hsz : w.heap.size + 2 ≤ (U1.alloc (.cells #[.slice none 0 0, .int .i64 0, .int .i64 0, .int .i64 0, .slice none 0 0, .int .i64 0, .int .i64 0, .int .i64 0, .slice none 0 0, .int .i64 0, .int .i64 0, .int .i64 0, .int .i64 0, .int .i64 0, .int .i64 0, .int .i64 0, .int .i64 0, .int .i64 0] 86)).heap.size := Nat.le_trans hsz hb.size
      go_simp
      refine hK.out _ _ cP (fun hS4 => ?_)
      clear hK hb
      generalize (U1.alloc (.cells #[.slice none 0 0, .int .i64 0, .int .i64 0, .int .i64 0, .slice none 0 0, .int .i64 0, .int .i64 0, .int .i64 0, .slice none 0 0, .int .i64 0, .int .i64 0, .int .i64 0, .int .i64 0, .int .i64 0, .int .i64 0, .int .i64 0, .int .i64 0, .int .i64 0] 86)) = U4 at *
      generalize U1.heap.size = XM at *
      try simp only [Act.put, List.setIfInBounds_toArray, List.set_cons_zero, List.set_cons_succ]
      refine tkr 2 9 (fun K hK => ?_)
      go_simp
      refine (kM _ s4 bw (hO.mem fz)).mono ?_
      rintro e U5 ⟨rfl, hb⟩
      replace cP := cells_kept hb _ _ cP
      replace pP := pP.below hb
      replace pR := pR.below hb
      replace bw := bel_trans bw hb
      replace pM := pM.below hb
      replace hO := hO.below hb
      replace hsz : w.heap.size + 2 ≤ U5.heap.size := Nat.le_trans hsz hb.size
      go_wp2_with fail
      refine hK.out _ _ cP (fun hS5 => ?_)
      clear hK hb
      try simp only [Act.put, List.setIfInBounds_toArray, List.set_cons_zero, List.set_cons_succ]
      refine tkm 3 6 (.tuple #[.agg #[.slice da0 dn0 dc0, .int .i64 p0, .int .i64 x0, .int .i64 y0, .slice da1 dn1 dc1, .int .i64 p1, .int .i64 x1, .int .i64 y1, .slice da2 dn2 dc2, .int .i64 p2, .int .i64 x2, .int .i64 y2, .int .i64 v0, .int .i64 v1, .int .i64 v2, .int .i64 v3, .int .i64 h0, .int .i64 h1], .int .i64 c]) ?_
      refine tkm 4 10 (.agg #[.slice da0 dn0 dc0, .int .i64 p0, .int .i64 x0, .int .i64 y0, .slice da1 dn1 dc1, .int .i64 p1, .int .i64 x1, .int .i64 y1, .slice da2 dn2 dc2, .int .i64 p2, .int .i64 x2, .int .i64 y2, .int .i64 v0, .int .i64 v1, .int .i64 v2, .int .i64 v3, .int .i64 h0, .int .i64 h1]) ?_
      refine tkm 5 11 (.int .i64 c) ?_
      refine wpAnyH_ready (rs := [7]) (by kernel_rfl) (by simp) ?_
      refine AllReadyH.cons (o := { dst := none, op := _, type := _, pos := _, after := _, guard := _ }) rfl (fun K hK => ?_) AllReadyH.nil
      refine step_store_blkD rfl 86 _ _ rfl XM [.slice da0 dn0 dc0, .int .i64 p0, .int .i64 x0, .int .i64 y0, .slice da1 dn1 dc1, .int .i64 p1, .int .i64 x1, .int .i64 y1, .slice da2 dn2 dc2, .int .i64 p2, .int .i64 x2, .int .i64 y2, .int .i64 v0, .int .i64 v1, .int .i64 v2, .int .i64 v3, .int .i64 h0, .int .i64 h1] rfl rfl pM (by kernel_rfl) rfl rfl ?_
      intro U9 pM2 g2
      have hne : w.heap.size ≠ XM := by omega
      have hne1 : w.heap.size + 1 ≠ XM := by omega
      replace pP := pP.kept g2 (fun e => hne (by cases e; rfl))
      replace pR := pR.kept g2 (fun e => hne1 (by cases e; rfl))
      replace bw := bw.grown g2 bw.size (fun k e => by cases e; omega)
      refine hK.out _ _ (by simpa using pP.cell 0) (fun hS9 => ?_)
      clear hK hO
      try simp only [Act.put, List.setIfInBounds_toArray, List.set_cons_zero, List.set_cons_succ]
      refine tkm 8 5 (.int .i64 c) ?_
      refine wpAnyH_done (by kernel_rfl) ?_ _
      clear hS9 cP hS0 pM
      have pM := pM2.out
      clear pM2 pP
      go_wp2_with (first | refine wpList_load_blk rfl 86 _ rfl XM rfl pM _ Tryd.underlying86 rfl (by kernel_rfl) ?_ | refine wpList_store_blk rfl 88 _ _ rfl (w.heap.size + 1) [.slice da0 dn0 dc0, .int .i64 p0, .int .i64 x0, .int .i64 y0, .slice da1 dn1 dc1, .int .i64 p1, .int .i64 x1, .int .i64 y1, .slice da2 dn2 dc2, .int .i64 p2, .int .i64 x2, .int .i64 y2, .int .i64 v0, .int .i64 v1, .int .i64 v2, .int .i64 v3, .int .i64 h0, .int .i64 h1, .slice none 0 0] rfl rfl pR (by kernel_rfl) rfl rfl ?_)
      intro U10 pR2 g3
      have bw2 := bw.grown g3 bw.size (fun k e => by cases e; omega)
      clear bw g2 g3 pM pR
      go_wp2_with fail
      refine bodyPost_ret (results_blk2 Tryd.results50 _ _ _ _ _ _ rfl pR2.out Tryd.underlying88 rfl (by kernel_rfl)) rfl ?_
      exact ⟨rfl, bw2⟩
  · have hdr : Below U.heap.size U U.drew := by go_grown
    replace cP := cells_kept hdr _ _ cP
    replace pP := pP.below hdr
    replace pR := pR.below hdr
    replace bw := bel_trans bw hdr
    replace hsz : w.heap.size + 2 ≤ U.drew.heap.size := hsz
    clear hdr
    generalize U.drew = Ud at *
    have hb : Below Ud.heap.size Ud (Ud.alloc (.cells #[.slice none 0 0, .int .i64 0, .int .i64 0, .int .i64 0, .slice none 0 0, .int .i64 0, .int .i64 0, .int .i64 0, .slice none 0 0, .int .i64 0, .int .i64 0, .int .i64 0, .int .i64 0, .int .i64 0, .int .i64 0, .int .i64 0, .int .i64 0, .int .i64 0] 86)) := by go_grown
    have pM : Blk (Ud.alloc (.cells #[.slice none 0 0, .int .i64 0, .int .i64 0, .int .i64 0, .slice none 0 0, .int .i64 0, .int .i64 0, .int .i64 0, .slice none 0 0, .int .i64 0, .int .i64 0, .int .i64 0, .int .i64 0, .int .i64 0, .int .i64 0, .int .i64 0, .int .i64 0, .int .i64 0] 86)) Ud.heap.size 86 [.slice none 0 0, .int .i64 0, .int .i64 0, .int .i64 0, .slice none 0 0, .int .i64 0, .int .i64 0, .int .i64 0, .slice none 0 0, .int .i64 0, .int .i64 0, .int .i64 0, .int .i64 0, .int .i64 0, .int .i64 0, .int .i64 0, .int .i64 0, .int .i64 0] := blkAt _ _ _ rfl
    replace cP := cells_kept hb _ _ cP
    replace pP := pP.below hb
    replace pR := pR.below hb
    replace bw := bel_trans bw hb
    have hXM : w.heap.size + 2 ≤ Ud.heap.size := hsz
    replace hsz : w.heap.size + 2 ≤ (Ud.alloc (.cells #[.slice none 0 0, .int .i64 0, .int .i64 0, .int .i64 0, .slice none 0 0, .int .i64 0, .int .i64 0, .int .i64 0, .slice none 0 0, .int .i64 0, .int .i64 0, .int .i64 0, .int .i64 0, .int .i64 0, .int .i64 0, .int .i64 0, .int .i64 0, .int .i64 0] 86)).heap.size := Nat.le_trans hsz hb.size
    go_simp
    refine hK.out _ _ cP (fun hS6 => ?_)
    clear hK hb
    generalize (Ud.alloc (.cells #[.slice none 0 0, .int .i64 0, .int .i64 0, .int .i64 0, .slice none 0 0, .int .i64 0, .int .i64 0, .int .i64 0, .slice none 0 0, .int .i64 0, .int .i64 0, .int .i64 0, .int .i64 0, .int .i64 0, .int .i64 0, .int .i64 0, .int .i64 0, .int .i64 0] 86)) = U6 at *
    generalize Ud.heap.size = XM at *
    try simp only [Act.put, List.setIfInBounds_toArray, List.set_cons_zero, List.set_cons_succ]
    refine tkr 1 8 (fun K hK => ?_)
    go_simp
    refine (kN _).mono ?_
    rintro e U7 ⟨⟨s4, rfl, hO⟩, hb⟩
    replace cP := cells_kept hb _ _ cP
    replace pP := pP.below hb
    replace pR := pR.below hb
    replace bw := bel_trans bw hb
    replace pM := pM.below hb
    replace hsz : w.heap.size + 2 ≤ U7.heap.size := Nat.le_trans hsz hb.size
    go_wp2_with fail
    refine hK.out _ _ cP (fun hS7 => ?_)
    clear hK hb
    try simp only [Act.put, List.setIfInBounds_toArray, List.set_cons_zero, List.set_cons_succ]
    refine tkr 2 9 (fun K hK => ?_)
    go_simp
    refine (kM _ s4 bw (hO.mem fz)).mono ?_
    rintro e U8 ⟨rfl, hb⟩
    replace cP := cells_kept hb _ _ cP
    replace pP := pP.below hb
    replace pR := pR.below hb
    replace bw := bel_trans bw hb
    replace pM := pM.below hb
    replace hO := hO.below hb
    replace hsz : w.heap.size + 2 ≤ U8.heap.size := Nat.le_trans hsz hb.size
    go_wp2_with fail
    refine hK.out _ _ cP (fun hS8 => ?_)
    clear hK hb
    try simp only [Act.put, List.setIfInBounds_toArray, List.set_cons_zero, List.set_cons_succ]
    refine tkm 3 6 (.tuple #[.agg #[.slice da0 dn0 dc0, .int .i64 p0, .int .i64 x0, .int .i64 y0, .slice da1 dn1 dc1, .int .i64 p1, .int .i64 x1, .int .i64 y1, .slice da2 dn2 dc2, .int .i64 p2, .int .i64 x2, .int .i64 y2, .int .i64 v0, .int .i64 v1, .int .i64 v2, .int .i64 v3, .int .i64 h0, .int .i64 h1], .int .i64 c]) ?_
    refine tkm 4 10 (.agg #[.slice da0 dn0 dc0, .int .i64 p0, .int .i64 x0, .int .i64 y0, .slice da1 dn1 dc1, .int .i64 p1, .int .i64 x1, .int .i64 y1, .slice da2 dn2 dc2, .int .i64 p2, .int .i64 x2, .int .i64 y2, .int .i64 v0, .int .i64 v1, .int .i64 v2, .int .i64 v3, .int .i64 h0, .int .i64 h1]) ?_
    refine tkm 5 11 (.int .i64 c) ?_
    refine wpAnyH_ready (rs := [7]) (by kernel_rfl) (by simp) ?_
    refine AllReadyH.cons (o := { dst := none, op := _, type := _, pos := _, after := _, guard := _ }) rfl (fun K hK => ?_) AllReadyH.nil
    refine step_store_blkD rfl 86 _ _ rfl XM [.slice da0 dn0 dc0, .int .i64 p0, .int .i64 x0, .int .i64 y0, .slice da1 dn1 dc1, .int .i64 p1, .int .i64 x1, .int .i64 y1, .slice da2 dn2 dc2, .int .i64 p2, .int .i64 x2, .int .i64 y2, .int .i64 v0, .int .i64 v1, .int .i64 v2, .int .i64 v3, .int .i64 h0, .int .i64 h1] rfl rfl pM (by kernel_rfl) rfl rfl ?_
    intro U9 pM2 g2
    have hne : w.heap.size ≠ XM := by omega
    have hne1 : w.heap.size + 1 ≠ XM := by omega
    replace pP := pP.kept g2 (fun e => hne (by cases e; rfl))
    replace pR := pR.kept g2 (fun e => hne1 (by cases e; rfl))
    replace bw := bw.grown g2 bw.size (fun k e => by cases e; omega)
    refine hK.out _ _ (by simpa using pP.cell 0) (fun hS9 => ?_)
    clear hK hO
    try simp only [Act.put, List.setIfInBounds_toArray, List.set_cons_zero, List.set_cons_succ]
    refine tkm 8 5 (.int .i64 c) ?_
    refine wpAnyH_done (by kernel_rfl) ?_ _
    clear hS9 cP hS0 pM
    have pM := pM2.out
    clear pM2 pP
    go_wp2_with (first | refine wpList_load_blk rfl 86 _ rfl XM rfl pM _ Tryd.underlying86 rfl (by kernel_rfl) ?_ | refine wpList_store_blk rfl 88 _ _ rfl (w.heap.size + 1) [.slice da0 dn0 dc0, .int .i64 p0, .int .i64 x0, .int .i64 y0, .slice da1 dn1 dc1, .int .i64 p1, .int .i64 x1, .int .i64 y1, .slice da2 dn2 dc2, .int .i64 p2, .int .i64 x2, .int .i64 y2, .int .i64 v0, .int .i64 v1, .int .i64 v2, .int .i64 v3, .int .i64 h0, .int .i64 h1, .slice none 0 0] rfl rfl pR (by kernel_rfl) rfl rfl ?_)
    intro U10 pR2 g3
    have bw2 := bw.grown g3 bw.size (fun k e => by cases e; omega)
    clear bw g2 g3 pM pR
    go_wp2_with fail
    refine bodyPost_ret (results_blk2 Tryd.results50 _ _ _ _ _ _ rfl pR2.out Tryd.underlying88 rfl (by kernel_rfl)) rfl ?_
    exact ⟨rfl, bw2⟩

end Go.Proofs.YtmhngodbnoonhaaDoor


/-
  A replay: who can go on, whether nobody can.
-/
namespace Go.Proofs.YtmhngodbnoonhaaDoor
namespace Rp
open Go.RowKit
set_option linter.unusedVariables false
set_option linter.unusedSimpArgs false
variable {fv : Value}

set_option maxHeartbeats 4000000 in
set_option maxRecDepth 100000 in
theorem enabled_is (g : Nat) (cs : Sl × Sl × Sl) (rows : List (List I3)) (m : V4) (w : World) (h : MachAt fv w g cs rows m) (hp : progOk rows = true) (hs : shapeOk m = true) :
    Calls Tryd.prog 126 #[.pointer (some ⟨g, 0, none⟩)] w fun e w' => (∃ s : Sl, e = .returned (.slice s.1 s.2.1 s.2.2) ∧ OwnI w' w.heap.size s (enabM rows m 3)) ∧ Below w.heap.size w w' := by
  obtain ⟨i0, hi, hz0, hz1, hz2⟩ := info_parts info_int
  have kD := fun (W : World) (hM : MachAt fv W g cs rows m) (k : Nat) (hk : k < 3) => doneT_is hM hk
  have kW := fun (W : World) (hM : MachAt fv W g cs rows m) (k : Nat) (hk : k < 3) => waits_is hM hp hs hk
  go_enter Tryd.func126, Tryd.ntmps126
  go_wp2_with fail
  go_loopw [3, 5] (fun so si wr => ∃ (k : Nat) (n : Nat) (v : Value), v = so ∧ k ≤ 3 ∧ si = .int .i64 k ∧ Hid (n = (enabM rows m k).length) ∧ wr.ownsRow w.heap.size 3 1 v n ((enabM rows m k).map (Value.int .i64)) ∧ Below w.heap.size w wr) (fun _ si _ => 3 - (intOf si).toNat)
  case atStart => exact ⟨0, 0, _, rfl, by omega, rfl, rfl, World.ownsRow_nil _ _ _ _, Below.refl _ _⟩
  case round =>
    obtain ⟨k, n, so, rfl, hk, rfl, HN, hr, hbw⟩ := hrel
    have hM := h.below hbw
    by_cases hlt : k < 3
    · have hk3 : (k : Int) < 3 := by omega
      have kD1 := kD _ hM k hlt
      have hsz := hbw.size
      cases hd : doneM rows m k
      · rw [hd] at kD1
        go_wp2_with fail
        refine kD1.mono ?_
        rintro e w1 ⟨rfl, d, rfl⟩
        replace hM : MachAt fv (wr.drewN d) g cs rows m := hM.below (below_dN _)
        replace hr : (wr.drewN d).ownsRow w.heap.size 3 1 so n ((enabM rows m k).map (Value.int .i64)) := hr
        replace hbw : Below w.heap.size w (wr.drewN d) := bel_trans hbw (below_dN _)
        replace hsz : w.heap.size ≤ (wr.drewN d).heap.size := hsz
        generalize wr.drewN d = W1 at *
        have kW1 := kW _ hM k hlt
        clear kD1
        cases hw : waitM rows m k
        · have hcan : canM rows m k = true := by
            unfold waitM at hw
            unfold canM
            rw [hd] at hw ⊢
            simpa using hw
          rw [hw] at kW1
          go_wp2_with fail
          refine kW1.mono ?_
          rintro e w2 ⟨rfl, hb⟩
          replace hM := hM.below hb
          replace hr := owns_below hr hb
          replace hbw := bel_trans hbw hb
          replace hsz := hbw.size
          clear hb kW1
          have hn3 : n ≤ 3 := by have := enabM_len rows m k; have := HN.out; omega
          have HN2 : Hid (n + 1 = (enabM rows m (k + 1)).length) := by rw [Hid, enabM_yes hcan, List.length_append, ← HN.out]; rfl
          have HX : Hid (enabM rows m (k + 1) = enabM rows m k ++ [(k : Int)]) := enabM_yes hcan
          go_wp2_with (at_builtin; refine wpList_append_own _ rfl _ _ 27 rfl w.heap.size 3 i0 (.int .i64 0) 1 8 Tryd.underlying27 hi hz0 hz1 hz2 rfl (by decide) _ _ _ rfl (hr.alloc _) ⟨w2.heap.size, 0, none⟩ 1 1 [.int .i64 (k : Int)] rfl rfl (cell_one_new _ _ _) (by simp [Value.oneCell']) ?c3 ?c4 ?c5 ?_)
          case c3 => unfold maxLen; omega
          case c4 => omega
          case c5 => simp; omega
          intro v' wn hown' hgrow _
          have R : wn.ownsRow w.heap.size 3 1 v' (n + 1) ((enabM rows m (k + 1)).map (Value.int .i64)) := by
            rw [HX.out, List.map_append]
            exact hown'
          have bn : Below w.heap.size w wn := (hbw.alloc hsz _).grown hgrow (by simp; omega) (fun k hk => (hr.lt k hk).1)
          clear hown' hgrow hr hbw hM HX
          go_wp2
          go_roundw
          case rel => exact ⟨k + 1, n + 1, _, rfl, by omega, by go_num, HN2, R, bn⟩
          case measure => simp [intOf]; omega
        · have hcan : canM rows m k = false := by
            unfold waitM at hw
            unfold canM
            rw [hd] at hw ⊢
            simpa using hw
          rw [hw] at kW1
          have HN2 : Hid (n = (enabM rows m (k + 1)).length) := by rw [Hid, enabM_no hcan]; exact HN.out
          rw [← enabM_no hcan] at hr
          go_wp2_with fail
          refine kW1.mono ?_
          rintro e w2 ⟨rfl, hb⟩
          replace hM := hM.below hb
          replace hr := owns_below hr hb
          replace hbw := bel_trans hbw hb
          clear hb kW1
          go_wp2
          go_roundw
          case rel => exact ⟨k + 1, n, _, rfl, by omega, by go_num, HN2, hr, hbw⟩
          case measure => simp [intOf]; omega
      · have hcan : canM rows m k = false := by unfold canM; rw [hd]; rfl
        rw [hd] at kD1
        have HN2 : Hid (n = (enabM rows m (k + 1)).length) := by rw [Hid, enabM_no hcan]; exact HN.out
        rw [← enabM_no hcan] at hr
        go_wp2_with fail
        refine kD1.mono ?_
        rintro e w1 ⟨rfl, d, rfl⟩
        replace hM : MachAt fv (wr.drewN d) g cs rows m := hM.below (below_dN _)
        replace hr : (wr.drewN d).ownsRow w.heap.size 3 1 so n ((enabM rows m (k + 1)).map (Value.int .i64)) := hr
        replace hbw : Below w.heap.size w (wr.drewN d) := bel_trans hbw (below_dN _)
        generalize wr.drewN d = W1 at *
        go_wp2
        go_roundw
        case rel => exact ⟨k + 1, n, _, rfl, by omega, by go_num, HN2, hr, hbw⟩
        case measure => simp [intOf]; omega
    · obtain rfl : k = 3 := by omega
      obtain ⟨a, c, rfl⟩ : ∃ a c, so = .slice a n c := by
        rcases hr.2 with ⟨rfl, rfl⟩ | ⟨g', cap, cur, hv, _⟩
        · exact ⟨none, 0, rfl⟩
        · exact ⟨_, cap, hv⟩
      clear kD kW hM
      go_wp2
      go_ret
      exact ⟨⟨(a, n, c), rfl, hr⟩, hbw⟩
set_option maxHeartbeats 4000000 in
set_option maxRecDepth 100000 in
theorem stuck_is (g : Nat) (cs : Sl × Sl × Sl) (rows : List (List I3)) (m : V4) (w : World) (h : MachAt fv w g cs rows m) (hp : progOk rows = true) (hs : shapeOk m = true) :
    Calls Tryd.prog 94 #[.pointer (some ⟨g, 0, none⟩)] w fun e w' => e = .returned (.bool (stuckM rows m)) ∧ Below w.heap.size w w' := by
  have kE := enabled_is g cs rows m w h hp hs
  have kD := fun (W : World) (hM : MachAt fv W g cs rows m) (k : Nat) (hk : k < 3) => doneT_is hM hk
  obtain ⟨fin, hfin⟩ : ∃ fin, fin = stuckM rows m := ⟨_, rfl⟩
  rw [← hfin]
  have HF : Hid (fin = (decide (enabM rows m 3 = []) && leftM rows m 0)) := hfin
  clear hfin
  go_enter Tryd.func94, Tryd.ntmps94
  go_wp2_with fail
  refine kE.mono ?_
  rintro e w1 ⟨⟨⟨a, n, c⟩, rfl, ho⟩, hb⟩
  have hn : (enabM rows m 3).length = n := by
    have := ho.1
    simpa using this
  clear ho kE
  simp only
  by_cases h0 : n = 0
  · subst h0
    have HL : Hid (fin = leftM rows m 0) := by rw [Hid, HF.out, List.eq_nil_of_length_eq_zero hn]; rfl
    clear HF hn
    go_wp2_with fail
    go_loopw [8] (fun si wr => ∃ k : Nat, k ≤ 3 ∧ si = .int .i64 k ∧ Hid (fin = leftM rows m k) ∧ Below w.heap.size w wr) (fun si _ => 3 - (intOf si).toNat)
    case atStart => exact ⟨0, by omega, rfl, HL, hb⟩
    case round =>
      clear hb HL
      obtain ⟨k, hk, rfl, HL, hbw⟩ := hrel
      by_cases hlt : k < 3
      · have hk3 : (k : Int) < 3 := by omega
        have kD1 := kD _ (h.below hbw) k hlt
        have hst := leftM_step rows m hlt
        have HS : Hid (leftM rows m k = (!doneM rows m k || leftM rows m (k + 1))) := hst
        clear hst
        cases hd : doneM rows m k
        · rw [hd] at kD1
          obtain rfl : fin = true := by rw [HL.out, HS.out, hd]; rfl
          clear HL HS
          go_wp2_with fail
          refine kD1.mono ?_
          rintro e w2 ⟨rfl, d, rfl⟩
          replace hbw : Below w.heap.size w (wr.drewN d) := bel_trans hbw (below_dN _)
          go_wp2
          go_ret
          exact ⟨rfl, hbw⟩
        · rw [hd] at kD1
          have HL2 : Hid (fin = leftM rows m (k + 1)) := by rw [Hid, HL.out, HS.out, hd]; rfl
          clear HL HS
          go_wp2_with fail
          refine kD1.mono ?_
          rintro e w2 ⟨rfl, d, rfl⟩
          replace hbw : Below w.heap.size w (wr.drewN d) := bel_trans hbw (below_dN _)
          generalize wr.drewN d = W1 at *
          go_wp2
          go_roundw
          case rel => exact ⟨k + 1, by omega, by go_num, HL2, hbw⟩
          case measure => simp [intOf]; omega
      · obtain rfl : k = 3 := by omega
        obtain rfl : fin = false := HL.out.trans (leftM_end _ _)
        clear kD HL
        go_wp2
        go_ret
        exact ⟨rfl, hbw⟩
  · obtain rfl : fin = false := by
      rw [HF.out, decide_eq_false]
      · rfl
      · intro e
        rw [e] at hn
        exact h0 hn.symm
    have hpos : (0 : Int) < (n : Int) := by omega
    clear HF hn kD
    go_wp2
    go_ret
    exact ⟨rfl, hb⟩

end Rp
end Go.Proofs.YtmhngodbnoonhaaDoor


/-
  slices.SortFunc at bugs: the library's contract laid at this program in plain words (the table of numbers, a field a fact).
-/
namespace Go.Proofs.YtmhngodbnoonhaaDoor
open Go.RowKit Go.Shelf

def sortBug_ren : Go.Shelf.Ren := ⟨fun | 6 => 128 | 15 => 138 | 14 => 137 | 28 => 149 | 29 => 150 | 20 => 141 | 21 => 142 | 22 => 143 | 23 => 144 | 24 => 145 | 25 => 146 | 26 => 147 | 27 => 148 | 46 => 152 | 47 => 153 | 48 => 154 | 49 => 155 | 50 => 156 | 57 => 157 | n => n, fun | 22 => 31 | 24 => 40 | 25 => 170 | 3 => 3 | 39 => 187 | 0 => 0 | 53 => 203 | 55 => 205 | 4 => 4 | 46 => 196 | 45 => 195 | 50 => 200 | 5 => 5 | 9 => 9 | 66 => 206 | 70 => 210 | 76 => 212 | 77 => 47 | n => n, fun | n => n⟩
theorem sortBug : Go.Proofs.SlLaysF0.n6 Tryd.prog sortBug_ren := {
  mixed := by kernel_rfl
  f6 := ⟨Tryd.f128.name, by decide, Tryd.func128.trans (congrArg some (by kernel_rfl))⟩
  f14 := ⟨Tryd.f137.name, by decide, Tryd.func137.trans (congrArg some (by kernel_rfl))⟩
  f15 := Tryd.func138.trans (congrArg some (by kernel_rfl))
  f20 := ⟨Tryd.f141.name, by decide, Tryd.func141.trans (congrArg some (by kernel_rfl))⟩
  f21 := ⟨Tryd.f142.name, by decide, Tryd.func142.trans (congrArg some (by kernel_rfl))⟩
  f22 := ⟨Tryd.f143.name, by decide, Tryd.func143.trans (congrArg some (by kernel_rfl))⟩
  f23 := ⟨Tryd.f144.name, by decide, Tryd.func144.trans (congrArg some (by kernel_rfl))⟩
  f24 := ⟨Tryd.f145.name, by decide, Tryd.func145.trans (congrArg some (by kernel_rfl))⟩
  f25 := ⟨Tryd.f146.name, by decide, Tryd.func146.trans (congrArg some (by kernel_rfl))⟩
  f26 := ⟨Tryd.f147.name, by decide, Tryd.func147.trans (congrArg some (by kernel_rfl))⟩
  f27 := ⟨Tryd.f148.name, by decide, Tryd.func148.trans (congrArg some (by kernel_rfl))⟩
  f28 := Tryd.func149.trans (congrArg some (by kernel_rfl))
  f29 := Tryd.func150.trans (congrArg some (by kernel_rfl))
  f46 := ⟨Tryd.f152.name, by decide, Tryd.func152.trans (congrArg some (by kernel_rfl))⟩
  f47 := Tryd.func153.trans (congrArg some (by kernel_rfl))
  f48 := Tryd.func154.trans (congrArg some (by kernel_rfl))
  f49 := ⟨Tryd.f155.name, by decide, Tryd.func155.trans (congrArg some (by kernel_rfl))⟩
  f50 := ⟨Tryd.f156.name, by decide, Tryd.func156.trans (congrArg some (by kernel_rfl))⟩
  f57 := ⟨Tryd.f157.name, by decide, Tryd.func157.trans (congrArg some (by kernel_rfl))⟩
  t0 := Tryd.underlying0
  a0 := Tryd.isAgg0
  z0 := Tryd.sizeOf0
  v0 := Tryd.zeroValue0
  t3 := Tryd.underlying3
  a3 := Tryd.isAgg3
  z3 := Tryd.sizeOf3
  v3 := Tryd.zeroValue3
  t4 := Tryd.underlying4
  a4 := Tryd.isAgg4
  z4 := Tryd.sizeOf4
  v4 := Tryd.zeroValue4
  t5 := Tryd.underlying5
  a5 := Tryd.isAgg5
  z5 := Tryd.sizeOf5
  v5 := Tryd.zeroValue5
  t9 := Tryd.underlying9
  a9 := Tryd.isAgg9
  z9 := Tryd.sizeOf9
  v9 := Tryd.zeroValue9
  t22 := Tryd.underlying31
  a22 := Tryd.isAgg31
  z22 := Tryd.sizeOf31
  v22 := Tryd.zeroValue31
  t25 := Tryd.underlying170
  a25 := Tryd.isAgg170
  z25 := Tryd.sizeOf170
  v25 := Tryd.zeroValue170
  t39 := Tryd.underlying187
  a39 := Tryd.isAgg187
  z39 := Tryd.sizeOf187
  v39 := Tryd.zeroValue187
  t45 := Tryd.underlying195
  a45 := Tryd.isAgg195
  z45 := Tryd.sizeOf195
  v45 := Tryd.zeroValue195
  t46 := Tryd.underlying196
  a46 := Tryd.isAgg196
  z46 := Tryd.sizeOf196
  v46 := Tryd.zeroValue196
  t50 := Tryd.underlying200
  a50 := Tryd.isAgg200
  z50 := Tryd.sizeOf200
  v50 := Tryd.zeroValue200
  t53 := Tryd.underlying203
  a53 := Tryd.isAgg203
  z53 := Tryd.sizeOf203
  v53 := Tryd.zeroValue203
  t55 := Tryd.underlying205
  a55 := Tryd.isAgg205
  z55 := Tryd.sizeOf205
  v55 := Tryd.zeroValue205
  t66 := Tryd.underlying206
  a66 := Tryd.isAgg206
  z66 := Tryd.sizeOf206
  v66 := Tryd.zeroValue206
  t70 := Tryd.underlying210
  a70 := Tryd.isAgg210
  z70 := Tryd.sizeOf210
  v70 := Tryd.zeroValue210
  t76 := Tryd.underlying212
  a76 := Tryd.isAgg212
  z76 := Tryd.sizeOf212
  v76 := Tryd.zeroValue212
  t77 := Tryd.underlying47
  a77 := Tryd.isAgg47
  z77 := Tryd.sizeOf47
  v77 := Tryd.zeroValue47 }

end Go.Proofs.YtmhngodbnoonhaaDoor

