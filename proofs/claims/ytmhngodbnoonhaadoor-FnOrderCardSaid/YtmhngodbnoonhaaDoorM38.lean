/-
  Joined: RpF, MrgB, SrtB, RunQ, RpG.
-/
import Derived.Test.YtmhngodbnoonhaaDoorProg
import Derived.WalkKit
import Derived.WalkSpells
import Derived.WalkLawsBesides
import Derived.RegionTactic
import Derived.BigQuiet
import Derived.Deep.QuietTactic
import Derived.Deep.Slices
import Derived.Deep.Strs
import Derived.Deep.Fields
import Derived.ChangeSame
import Derived.ChangeSlices
import Derived.Lib.SmallJoins
import Derived.Handy
import Derived.OwnWalk
import Derived.Shelf.Abstract
import Derived.Deep.RegionHeld3
import Derived.Laws.BytesArg
import Derived.Deep.RegionLaw
import Derived.Laws.OwnMore
import Derived.Laws.CopyOwn
import Derived.Laws.Tables
import Derived.BigRegion
import Derived.Maps.AppendAt
import Derived.Laws.RangeString
import Derived.Laws.RangeAny
import Derived.Laws.Bits
import Derived.Lib.FieldsP
import Derived.Stop.Asserts
import Derived.Recover
import Derived.Shelf.SlSortCmp.NoneTotal
import Derived.Shelf.Spec.SlicesGrow
import Derived.Laws.AppendOwnNone
import Derived.Lib.SliceRun
import Derived.Test.YtmhngodbnoonhaaDoorM01
import Derived.Test.YtmhngodbnoonhaaDoorM03
import Derived.Test.YtmhngodbnoonhaaDoorM05
import Derived.Test.YtmhngodbnoonhaaDoorM07
import Derived.Test.YtmhngodbnoonhaaDoorM08
import Derived.Test.YtmhngodbnoonhaaDoorM09
import Derived.Test.YtmhngodbnoonhaaDoorM11
import Derived.Test.YtmhngodbnoonhaaDoorM13
import Derived.Test.YtmhngodbnoonhaaDoorM20
import Derived.Test.YtmhngodbnoonhaaDoorM23
import Derived.Test.YtmhngodbnoonhaaDoorM24
import Derived.Test.YtmhngodbnoonhaaDoorM25
import Derived.Test.YtmhngodbnoonhaaDoorM26
import Derived.Test.YtmhngodbnoonhaaDoorM29
import Derived.Test.YtmhngodbnoonhaaDoorM31
import Derived.Test.YtmhngodbnoonhaaDoorM33
import Derived.Test.YtmhngodbnoonhaaDoorM37

/-
  A new replay.
-/
namespace Go.Proofs.YtmhngodbnoonhaaDoor
open Go.RowKit
set_option linter.unusedVariables false
set_option linter.unusedSimpArgs false

set_option maxHeartbeats 4000000 in
set_option maxRecDepth 100000 in
theorem newReplay_of (a : Option Addr) (len cap : Nat) (w : World) (c : Int) (da0 : Option Addr) (dn0 dc0 : Nat) (da1 : Option Addr) (dn1 dc1 : Nat) (da2 : Option Addr) (dn2 dc2 : Nat) (p0 p1 p2 v0 v1 v2 v3 h0 h1 x0 y0 x1 y1 x2 y2 : Int)
    (kM : ∀ (W : World) (s : S4), Below w.heap.size w W → Vmem W s zeroV → Calls Tryd.prog 89 #[.agg #[.slice a len cap], s.val] W fun e w' => e = .returned (.tuple #[.agg #[.slice da0 dn0 dc0, .int .i64 p0, .int .i64 x0, .int .i64 y0, .slice da1 dn1 dc1, .int .i64 p1, .int .i64 x1, .int .i64 y1, .slice da2 dn2 dc2, .int .i64 p2, .int .i64 x2, .int .i64 y2, .int .i64 v0, .int .i64 v1, .int .i64 v2, .int .i64 v3, .int .i64 h0, .int .i64 h1], .int .i64 c]) ∧ Below W.heap.size W w') :
    Calls Tryd.prog 50 #[.agg #[.slice a len cap]] w fun e w' => e = .returned (.tuple #[.agg #[.slice da0 dn0 dc0, .int .i64 p0, .int .i64 x0, .int .i64 y0, .slice da1 dn1 dc1, .int .i64 p1, .int .i64 x1, .int .i64 y1, .slice da2 dn2 dc2, .int .i64 p2, .int .i64 x2, .int .i64 y2, .int .i64 v0, .int .i64 v1, .int .i64 v2, .int .i64 v3, .int .i64 h0, .int .i64 h1, .slice none 0 0], .int .i64 c]) ∧ Below w.heap.size w w' := by
  have fz := (shape_fits9 zero_shape).1
  have kN := implNewVm_is
  have bw : Below w.heap.size w ((w.alloc (.cells #[.slice a len cap] 25)).alloc (.cells #[.slice none 0 0, .int .i64 0, .int .i64 0, .int .i64 0, .slice none 0 0, .int .i64 0, .int .i64 0, .int .i64 0, .slice none 0 0, .int .i64 0, .int .i64 0, .int .i64 0, .int .i64 0, .int .i64 0, .int .i64 0, .int .i64 0, .int .i64 0, .int .i64 0, .slice none 0 0] 88)) := by go_grown
  have pP : Blk ((w.alloc (.cells #[.slice a len cap] 25)).alloc (.cells #[.slice none 0 0, .int .i64 0, .int .i64 0, .int .i64 0, .slice none 0 0, .int .i64 0, .int .i64 0, .int .i64 0, .slice none 0 0, .int .i64 0, .int .i64 0, .int .i64 0, .int .i64 0, .int .i64 0, .int .i64 0, .int .i64 0, .int .i64 0, .int .i64 0, .slice none 0 0] 88)) w.heap.size 25 [.slice a len cap] := blkOld _ (blkAt _ _ _ rfl)
  have pR : Blk ((w.alloc (.cells #[.slice a len cap] 25)).alloc (.cells #[.slice none 0 0, .int .i64 0, .int .i64 0, .int .i64 0, .slice none 0 0, .int .i64 0, .int .i64 0, .int .i64 0, .slice none 0 0, .int .i64 0, .int .i64 0, .int .i64 0, .int .i64 0, .int .i64 0, .int .i64 0, .int .i64 0, .int .i64 0, .int .i64 0, .slice none 0 0] 88)) (w.heap.size + 1) 88 [.slice none 0 0, .int .i64 0, .int .i64 0, .int .i64 0, .slice none 0 0, .int .i64 0, .int .i64 0, .int .i64 0, .slice none 0 0, .int .i64 0, .int .i64 0, .int .i64 0, .int .i64 0, .int .i64 0, .int .i64 0, .int .i64 0, .int .i64 0, .int .i64 0, .slice none 0 0] := blkAt _ _ _ (by simp)
  have hsz : w.heap.size + 2 ≤ ((w.alloc (.cells #[.slice a len cap] 25)).alloc (.cells #[.slice none 0 0, .int .i64 0, .int .i64 0, .int .i64 0, .slice none 0 0, .int .i64 0, .int .i64 0, .int .i64 0, .slice none 0 0, .int .i64 0, .int .i64 0, .int .i64 0, .int .i64 0, .int .i64 0, .int .i64 0, .int .i64 0, .int .i64 0, .int .i64 0, .slice none 0 0] 88)).heap.size := by simp
  go_enter Tryd.func50, Tryd.ntmps50
  go_wp2_with fail
  generalize ((w.alloc (.cells #[.slice a len cap] 25)).alloc (.cells #[.slice none 0 0, .int .i64 0, .int .i64 0, .int .i64 0, .slice none 0 0, .int .i64 0, .int .i64 0, .int .i64 0, .slice none 0 0, .int .i64 0, .int .i64 0, .int .i64 0, .int .i64 0, .int .i64 0, .int .i64 0, .int .i64 0, .int .i64 0, .int .i64 0, .slice none 0 0] 88)) = U at *
  have cP : U.cell? ⟨w.heap.size, 0, none⟩ = some (.slice a len cap) := by simpa using pP.cell 0
  refine wp_region_held_drew (S := (fun w' => w'.cell? ⟨w.heap.size, 0, none⟩ = some (.slice a len cap))) (by kernel_rfl) cP (fun hS0 => ?_)
  refine wpAnyH_take (i := 0) (oi := { dst := some 7, op := _, type := _, pos := _, after := _, guard := _ }) (v := .agg #[.slice a len cap]) rfl (by kernel_rfl) (by kernel_rfl) (by kernel_rfl) (fun _ _ _ h => h) (Or.inl ⟨by rfl, ?_⟩) (by assumption) ?_
  · (intro w' hSw; (try dsimp only at hSw); go_simp; try rfl)
  simp only [Act.put, List.setIfInBounds_toArray, List.set_cons_zero, List.set_cons_succ]
  refine wpAnyH_ready (rs := [1, 6]) (by kernel_rfl) (by simp) ?_
  refine AllReadyH.cons (o := { dst := some 8, op := _, type := _, pos := _, after := _, guard := _ }) rfl (fun K hK => ?_) (AllReadyH.cons (o := { dst := some 4, op := _, type := _, pos := _, after := _, guard := _ }) rfl (fun K hK => ?_) AllReadyH.nil)
  · have hdr : Below U.heap.size U U.drew := by go_grown
    replace cP := cells_kept hdr _ _ cP
    replace pP := pP.below hdr
    replace pR := pR.below hdr
    replace bw := bel_trans bw hdr
    replace hsz : w.heap.size + 2 ≤ U.drew.heap.size := hsz
    clear hdr
    generalize U.drew = Ud at *
    go_simp
    refine (kN _).mono ?_
    rintro e U1 ⟨⟨s4, rfl, hO⟩, hb⟩
    replace cP := cells_kept hb _ _ cP
    replace pP := pP.below hb
    replace pR := pR.below hb
    replace bw := bel_trans bw hb
    replace hsz : w.heap.size + 2 ≤ U1.heap.size := Nat.le_trans hsz hb.size
    go_wp2_with fail
    refine hK.out _ _ cP (fun hS1 => ?_)
    clear hK hb
    try simp only [Act.put, List.setIfInBounds_toArray, List.set_cons_zero, List.set_cons_succ]
    refine wpAnyH_ready (rs := [2, 6]) (by kernel_rfl) (by simp) ?_
    refine AllReadyH.cons (o := { dst := some 9, op := _, type := _, pos := _, after := _, guard := _ }) rfl (fun K hK => ?_) (AllReadyH.cons (o := { dst := some 4, op := _, type := _, pos := _, after := _, guard := _ }) rfl (fun K hK => ?_) AllReadyH.nil)
    · go_simp
      refine (kM _ s4 bw (hO.mem fz)).mono ?_
      rintro e U2 ⟨rfl, hb⟩
      replace cP := cells_kept hb _ _ cP
      replace pP := pP.below hb
      replace pR := pR.below hb
      replace bw := bel_trans bw hb
      replace hO := hO.below hb
      replace hsz : w.heap.size + 2 ≤ U2.heap.size := Nat.le_trans hsz hb.size
      go_wp2_with fail
      refine hK.out _ _ cP (fun hS2 => ?_)
      clear hK hb
      try simp only [Act.put, List.setIfInBounds_toArray, List.set_cons_zero, List.set_cons_succ]
      refine wpAnyH_take (i := 3) (oi := { dst := some 6, op := _, type := _, pos := _, after := _, guard := _ }) (v := .tuple #[.agg #[.slice da0 dn0 dc0, .int .i64 p0, .int .i64 x0, .int .i64 y0, .slice da1 dn1 dc1, .int .i64 p1, .int .i64 x1, .int .i64 y1, .slice da2 dn2 dc2, .int .i64 p2, .int .i64 x2, .int .i64 y2, .int .i64 v0, .int .i64 v1, .int .i64 v2, .int .i64 v3, .int .i64 h0, .int .i64 h1], .int .i64 c]) rfl (by kernel_rfl) (by kernel_rfl) (by kernel_rfl) (fun _ _ _ h => h) (Or.inl ⟨by rfl, ?_⟩) (by assumption) ?_
      · (intro w' hSw; (try dsimp only at hSw); go_simp; try rfl)
      simp only [Act.put, List.setIfInBounds_toArray, List.set_cons_zero, List.set_cons_succ]
      refine wpAnyH_take (i := 4) (oi := { dst := some 10, op := _, type := _, pos := _, after := _, guard := _ }) (v := .agg #[.slice da0 dn0 dc0, .int .i64 p0, .int .i64 x0, .int .i64 y0, .slice da1 dn1 dc1, .int .i64 p1, .int .i64 x1, .int .i64 y1, .slice da2 dn2 dc2, .int .i64 p2, .int .i64 x2, .int .i64 y2, .int .i64 v0, .int .i64 v1, .int .i64 v2, .int .i64 v3, .int .i64 h0, .int .i64 h1]) rfl (by kernel_rfl) (by kernel_rfl) (by kernel_rfl) (fun _ _ _ h => h) (Or.inl ⟨by rfl, ?_⟩) (by assumption) ?_
      · (intro w' hSw; (try dsimp only at hSw); go_simp; try rfl)
      simp only [Act.put, List.setIfInBounds_toArray, List.set_cons_zero, List.set_cons_succ]
      refine wpAnyH_take (i := 5) (oi := { dst := some 11, op := _, type := _, pos := _, after := _, guard := _ }) (v := .int .i64 c) rfl (by kernel_rfl) (by kernel_rfl) (by kernel_rfl) (fun _ _ _ h => h) (Or.inl ⟨by rfl, ?_⟩) (by assumption) ?_
      · (intro w' hSw; (try dsimp only at hSw); go_simp; try rfl)
      simp only [Act.put, List.setIfInBounds_toArray, List.set_cons_zero, List.set_cons_succ]
      refine wpAnyH_ready (rs := [6]) (by kernel_rfl) (by simp) ?_
      refine AllReadyH.cons (o := { dst := some 4, op := _, type := _, pos := _, after := _, guard := _ }) rfl (fun K hK => ?_) AllReadyH.nil
      have hb : Below U2.heap.size U2 (U2.alloc (.cells #[.slice none 0 0, .int .i64 0, .int .i64 0, .int .i64 0, .slice none 0 0, .int .i64 0, .int .i64 0, .int .i64 0, .slice none 0 0, .int .i64 0, .int .i64 0, .int .i64 0, .int .i64 0, .int .i64 0, .int .i64 0, .int .i64 0, .int .i64 0, .int .i64 0] 86)) := by go_grown
      have pM : Blk (U2.alloc (.cells #[.slice none 0 0, .int .i64 0, .int .i64 0, .int .i64 0, .slice none 0 0, .int .i64 0, .int .i64 0, .int .i64 0, .slice none 0 0, .int .i64 0, .int .i64 0, .int .i64 0, .int .i64 0, .int .i64 0, .int .i64 0, .int .i64 0, .int .i64 0, .int .i64 0] 86)) U2.heap.size 86 [.slice none 0 0, .int .i64 0, .int .i64 0, .int .i64 0, .slice none 0 0, .int .i64 0, .int .i64 0, .int .i64 0, .slice none 0 0, .int .i64 0, .int .i64 0, .int .i64 0, .int .i64 0, .int .i64 0, .int .i64 0, .int .i64 0, .int .i64 0, .int .i64 0] := blkAt _ _ _ rfl
      replace cP := cells_kept hb _ _ cP
      replace pP := pP.below hb
      replace pR := pR.below hb
      replace bw := bel_trans bw hb
      replace hO := hO.below hb
      have hXM : w.heap.size + 2 ≤ U2.heap.size := hsz
      replace hsz : w.heap.size + 2 ≤ (U2.alloc (.cells #[.slice none 0 0, .int .i64 0, .int .i64 0, .int .i64 0, .slice none 0 0, .int .i64 0, .int .i64 0, .int .i64 0, .slice none 0 0, .int .i64 0, .int .i64 0, .int .i64 0, .int .i64 0, .int .i64 0, .int .i64 0, .int .i64 0, .int .i64 0, .int .i64 0] 86)).heap.size := Nat.le_trans hsz hb.size
      go_simp
      refine hK.out _ _ cP (fun hS3 => ?_)
      clear hK hb
      generalize (U2.alloc (.cells #[.slice none 0 0, .int .i64 0, .int .i64 0, .int .i64 0, .slice none 0 0, .int .i64 0, .int .i64 0, .int .i64 0, .slice none 0 0, .int .i64 0, .int .i64 0, .int .i64 0, .int .i64 0, .int .i64 0, .int .i64 0, .int .i64 0, .int .i64 0, .int .i64 0] 86)) = U3 at *
      generalize U2.heap.size = XM at *
      try simp only [Act.put, List.setIfInBounds_toArray, List.set_cons_zero, List.set_cons_succ]
      refine wpAnyH_ready (rs := [7]) (by kernel_rfl) (by simp) ?_
      refine AllReadyH.cons (o := { dst := none, op := _, type := _, pos := _, after := _, guard := _ }) rfl (fun K hK => ?_) AllReadyH.nil
      refine step_store_blkD rfl 86 _ _ rfl XM [.slice da0 dn0 dc0, .int .i64 p0, .int .i64 x0, .int .i64 y0, .slice da1 dn1 dc1, .int .i64 p1, .int .i64 x1, .int .i64 y1, .slice da2 dn2 dc2, .int .i64 p2, .int .i64 x2, .int .i64 y2, .int .i64 v0, .int .i64 v1, .int .i64 v2, .int .i64 v3, .int .i64 h0, .int .i64 h1] rfl rfl pM (by kernel_rfl) rfl rfl ?_
      intro U9 pM2 g2
      have hne : w.heap.size ≠ XM := by omega
      have hne1 : w.heap.size + 1 ≠ XM := by omega
      replace pP := pP.kept g2 (fun e => hne (by cases e; rfl))
      replace pR := pR.kept g2 (fun e => hne1 (by cases e; rfl))
      replace bw := bw.grown g2 bw.size (fun k e => by cases e; omega)
      refine hK.out _ _ (by simpa using pP.cell 0) (fun hS9 => ?_)
      clear hK hO
      try simp only [Act.put, List.setIfInBounds_toArray, List.set_cons_zero, List.set_cons_succ]
      refine wpAnyH_take (i := 8) (oi := { dst := some 5, op := _, type := _, pos := _, after := _, guard := _ }) (v := .int .i64 c) rfl (by kernel_rfl) (by kernel_rfl) (by kernel_rfl) (fun _ _ _ h => h) (Or.inl ⟨by rfl, ?_⟩) (by assumption) ?_
      · (intro w' hSw; (try dsimp only at hSw); go_simp; try rfl)
      simp only [Act.put, List.setIfInBounds_toArray, List.set_cons_zero, List.set_cons_succ]
      refine wpAnyH_done (by kernel_rfl) ?_ _
      clear hS9 cP hS0 pM
      have pM := pM2.out
      clear pM2 pP
      go_wp2_with (first | refine wpList_load_blk rfl 86 _ rfl XM rfl pM _ Tryd.underlying86 rfl (by kernel_rfl) ?_ | refine wpList_store_blk rfl 88 _ _ rfl (w.heap.size + 1) [.slice da0 dn0 dc0, .int .i64 p0, .int .i64 x0, .int .i64 y0, .slice da1 dn1 dc1, .int .i64 p1, .int .i64 x1, .int .i64 y1, .slice da2 dn2 dc2, .int .i64 p2, .int .i64 x2, .int .i64 y2, .int .i64 v0, .int .i64 v1, .int .i64 v2, .int .i64 v3, .int .i64 h0, .int .i64 h1, .slice none 0 0] rfl rfl pR (by kernel_rfl) rfl rfl ?_)
      intro U10 pR2 g3
      have bw2 := bw.grown g3 bw.size (fun k e => by cases e; omega)
      clear bw g2 g3 pM pR
      go_wp2_with fail
      refine bodyPost_ret (results_blk2 Tryd.results50 _ _ _ _ _ _ rfl pR2.out Tryd.underlying88 rfl (by kernel_rfl)) rfl ?_
      exact ⟨rfl, bw2⟩
    · have hb : Below U1.heap.size U1 (U1.alloc (.cells #[.slice none 0 0, .int .i64 0, .int .i64 0, .int .i64 0, .slice none 0 0, .int .i64 0, .int .i64 0, .int .i64 0, .slice none 0 0, .int .i64 0, .int .i64 0, .int .i64 0, .int .i64 0, .int .i64 0, .int .i64 0, .int .i64 0, .int .i64 0, .int .i64 0] 86)) := by go_grown
      have pM : Blk (U1.alloc (.cells #[.slice none 0 0, .int .i64 0, .int .i64 0, .int .i64 0, .slice none 0 0, .int .i64 0, .int .i64 0, .int .i64 0, .slice none 0 0, .int .i64 0, .int .i64 0, .int .i64 0, .int .i64 0, .int .i64 0, .int .i64 0, .int .i64 0, .int .i64 0, .int .i64 0] 86)) U1.heap.size 86 [.slice none 0 0, .int .i64 0, .int .i64 0, .int .i64 0, .slice none 0 0, .int .i64 0, .int .i64 0, .int .i64 0, .slice none 0 0, .int .i64 0, .int .i64 0, .int .i64 0, .int .i64 0, .int .i64 0, .int .i64 0, .int .i64 0, .int .i64 0, .int .i64 0] := blkAt _ _ _ rfl
      replace cP := cells_kept hb _ _ cP
      replace pP := pP.below hb
      replace pR := pR.below hb
      replace bw := bel_trans bw hb
      replace hO := hO.below hb
      have hXM : w.heap.size + 2 ≤ U1.heap.size := hsz
      replace hsz : w.heap.size + 2 ≤ (U1.alloc (.cells #[.slice none 0 0, .int .i64 0, .int .i64 0, .int .i64 0, .slice none 0 0, .int .i64 0, .int .i64 0, .int .i64 0, .slice none 0 0, .int .i64 0, .int .i64 0, .int .i64 0, .int .i64 0, .int .i64 0, .int .i64 0, .int .i64 0, .int .i64 0, .int .i64 0] 86)).heap.size := Nat.le_trans hsz hb.size
      go_simp
      refine hK.out _ _ cP (fun hS4 => ?_)
      clear hK hb
      generalize (U1.alloc (.cells #[.slice none 0 0, .int .i64 0, .int .i64 0, .int .i64 0, .slice none 0 0, .int .i64 0, .int .i64 0, .int .i64 0, .slice none 0 0, .int .i64 0, .int .i64 0, .int .i64 0, .int .i64 0, .int .i64 0, .int .i64 0, .int .i64 0, .int .i64 0, .int .i64 0] 86)) = U4 at *
      generalize U1.heap.size = XM at *
      try simp only [Act.put, List.setIfInBounds_toArray, List.set_cons_zero, List.set_cons_succ]
      refine wpAnyH_ready (rs := [2]) (by kernel_rfl) (by simp) ?_
      refine AllReadyH.cons (o := { dst := some 9, op := _, type := _, pos := _, after := _, guard := _ }) rfl (fun K hK => ?_) AllReadyH.nil
      go_simp
      refine (kM _ s4 bw (hO.mem fz)).mono ?_
      rintro e U5 ⟨rfl, hb⟩
      replace cP := cells_kept hb _ _ cP
      replace pP := pP.below hb
      replace pR := pR.below hb
      replace bw := bel_trans bw hb
      replace pM := pM.below hb
      replace hO := hO.below hb
      replace hsz : w.heap.size + 2 ≤ U5.heap.size := Nat.le_trans hsz hb.size
      go_wp2_with fail
      refine hK.out _ _ cP (fun hS5 => ?_)
      clear hK hb
      try simp only [Act.put, List.setIfInBounds_toArray, List.set_cons_zero, List.set_cons_succ]
      refine wpAnyH_take (i := 3) (oi := { dst := some 6, op := _, type := _, pos := _, after := _, guard := _ }) (v := .tuple #[.agg #[.slice da0 dn0 dc0, .int .i64 p0, .int .i64 x0, .int .i64 y0, .slice da1 dn1 dc1, .int .i64 p1, .int .i64 x1, .int .i64 y1, .slice da2 dn2 dc2, .int .i64 p2, .int .i64 x2, .int .i64 y2, .int .i64 v0, .int .i64 v1, .int .i64 v2, .int .i64 v3, .int .i64 h0, .int .i64 h1], .int .i64 c]) rfl (by kernel_rfl) (by kernel_rfl) (by kernel_rfl) (fun _ _ _ h => h) (Or.inl ⟨by rfl, ?_⟩) (by assumption) ?_
      · (intro w' hSw; (try dsimp only at hSw); go_simp; try rfl)
      simp only [Act.put, List.setIfInBounds_toArray, List.set_cons_zero, List.set_cons_succ]
      refine wpAnyH_take (i := 4) (oi := { dst := some 10, op := _, type := _, pos := _, after := _, guard := _ }) (v := .agg #[.slice da0 dn0 dc0, .int .i64 p0, .int .i64 x0, .int .i64 y0, .slice da1 dn1 dc1, .int .i64 p1, .int .i64 x1, .int .i64 y1, .slice da2 dn2 dc2, .int .i64 p2, .int .i64 x2, .int .i64 y2, .int .i64 v0, .int .i64 v1, .int .i64 v2, .int .i64 v3, .int .i64 h0, .int .i64 h1]) rfl (by kernel_rfl) (by kernel_rfl) (by kernel_rfl) (fun _ _ _ h => h) (Or.inl ⟨by rfl, ?_⟩) (by assumption) ?_
      · (intro w' hSw; (try dsimp only at hSw); go_simp; try rfl)
      simp only [Act.put, List.setIfInBounds_toArray, List.set_cons_zero, List.set_cons_succ]
      refine wpAnyH_take (i := 5) (oi := { dst := some 11, op := _, type := _, pos := _, after := _, guard := _ }) (v := .int .i64 c) rfl (by kernel_rfl) (by kernel_rfl) (by kernel_rfl) (fun _ _ _ h => h) (Or.inl ⟨by rfl, ?_⟩) (by assumption) ?_
      · (intro w' hSw; (try dsimp only at hSw); go_simp; try rfl)
      simp only [Act.put, List.setIfInBounds_toArray, List.set_cons_zero, List.set_cons_succ]
      refine wpAnyH_ready (rs := [7]) (by kernel_rfl) (by simp) ?_
      refine AllReadyH.cons (o := { dst := none, op := _, type := _, pos := _, after := _, guard := _ }) rfl (fun K hK => ?_) AllReadyH.nil
      refine step_store_blkD rfl 86 _ _ rfl XM [.slice da0 dn0 dc0, .int .i64 p0, .int .i64 x0, .int .i64 y0, .slice da1 dn1 dc1, .int .i64 p1, .int .i64 x1, .int .i64 y1, .slice da2 dn2 dc2, .int .i64 p2, .int .i64 x2, .int .i64 y2, .int .i64 v0, .int .i64 v1, .int .i64 v2, .int .i64 v3, .int .i64 h0, .int .i64 h1] rfl rfl pM (by kernel_rfl) rfl rfl ?_
      intro U9 pM2 g2
      have hne : w.heap.size ≠ XM := by omega
      have hne1 : w.heap.size + 1 ≠ XM := by omega
      replace pP := pP.kept g2 (fun e => hne (by cases e; rfl))
      replace pR := pR.kept g2 (fun e => hne1 (by cases e; rfl))
      replace bw := bw.grown g2 bw.size (fun k e => by cases e; omega)
      refine hK.out _ _ (by simpa using pP.cell 0) (fun hS9 => ?_)
      clear hK hO
      try simp only [Act.put, List.setIfInBounds_toArray, List.set_cons_zero, List.set_cons_succ]
      refine wpAnyH_take (i := 8) (oi := { dst := some 5, op := _, type := _, pos := _, after := _, guard := _ }) (v := .int .i64 c) rfl (by kernel_rfl) (by kernel_rfl) (by kernel_rfl) (fun _ _ _ h => h) (Or.inl ⟨by rfl, ?_⟩) (by assumption) ?_
      · (intro w' hSw; (try dsimp only at hSw); go_simp; try rfl)
      simp only [Act.put, List.setIfInBounds_toArray, List.set_cons_zero, List.set_cons_succ]
      refine wpAnyH_done (by kernel_rfl) ?_ _
      clear hS9 cP hS0 pM
      have pM := pM2.out
      clear pM2 pP
      go_wp2_with (first | refine wpList_load_blk rfl 86 _ rfl XM rfl pM _ Tryd.underlying86 rfl (by kernel_rfl) ?_ | refine wpList_store_blk rfl 88 _ _ rfl (w.heap.size + 1) [.slice da0 dn0 dc0, .int .i64 p0, .int .i64 x0, .int .i64 y0, .slice da1 dn1 dc1, .int .i64 p1, .int .i64 x1, .int .i64 y1, .slice da2 dn2 dc2, .int .i64 p2, .int .i64 x2, .int .i64 y2, .int .i64 v0, .int .i64 v1, .int .i64 v2, .int .i64 v3, .int .i64 h0, .int .i64 h1, .slice none 0 0] rfl rfl pR (by kernel_rfl) rfl rfl ?_)
      intro U10 pR2 g3
      have bw2 := bw.grown g3 bw.size (fun k e => by cases e; omega)
      clear bw g2 g3 pM pR
      go_wp2_with fail
      refine bodyPost_ret (results_blk2 Tryd.results50 _ _ _ _ _ _ rfl pR2.out Tryd.underlying88 rfl (by kernel_rfl)) rfl ?_
      exact ⟨rfl, bw2⟩
  · have hdr : Below U.heap.size U U.drew := by go_grown
    replace cP := cells_kept hdr _ _ cP
    replace pP := pP.below hdr
    replace pR := pR.below hdr
    replace bw := bel_trans bw hdr
    replace hsz : w.heap.size + 2 ≤ U.drew.heap.size := hsz
    clear hdr
    generalize U.drew = Ud at *
    have hb : Below Ud.heap.size Ud (Ud.alloc (.cells #[.slice none 0 0, .int .i64 0, .int .i64 0, .int .i64 0, .slice none 0 0, .int .i64 0, .int .i64 0, .int .i64 0, .slice none 0 0, .int .i64 0, .int .i64 0, .int .i64 0, .int .i64 0, .int .i64 0, .int .i64 0, .int .i64 0, .int .i64 0, .int .i64 0] 86)) := by go_grown
    have pM : Blk (Ud.alloc (.cells #[.slice none 0 0, .int .i64 0, .int .i64 0, .int .i64 0, .slice none 0 0, .int .i64 0, .int .i64 0, .int .i64 0, .slice none 0 0, .int .i64 0, .int .i64 0, .int .i64 0, .int .i64 0, .int .i64 0, .int .i64 0, .int .i64 0, .int .i64 0, .int .i64 0] 86)) Ud.heap.size 86 [.slice none 0 0, .int .i64 0, .int .i64 0, .int .i64 0, .slice none 0 0, .int .i64 0, .int .i64 0, .int .i64 0, .slice none 0 0, .int .i64 0, .int .i64 0, .int .i64 0, .int .i64 0, .int .i64 0, .int .i64 0, .int .i64 0, .int .i64 0, .int .i64 0] := blkAt _ _ _ rfl
    replace cP := cells_kept hb _ _ cP
    replace pP := pP.below hb
    replace pR := pR.below hb
    replace bw := bel_trans bw hb
    have hXM : w.heap.size + 2 ≤ Ud.heap.size := hsz
    replace hsz : w.heap.size + 2 ≤ (Ud.alloc (.cells #[.slice none 0 0, .int .i64 0, .int .i64 0, .int .i64 0, .slice none 0 0, .int .i64 0, .int .i64 0, .int .i64 0, .slice none 0 0, .int .i64 0, .int .i64 0, .int .i64 0, .int .i64 0, .int .i64 0, .int .i64 0, .int .i64 0, .int .i64 0, .int .i64 0] 86)).heap.size := Nat.le_trans hsz hb.size
    go_simp
    refine hK.out _ _ cP (fun hS6 => ?_)
    clear hK hb
    generalize (Ud.alloc (.cells #[.slice none 0 0, .int .i64 0, .int .i64 0, .int .i64 0, .slice none 0 0, .int .i64 0, .int .i64 0, .int .i64 0, .slice none 0 0, .int .i64 0, .int .i64 0, .int .i64 0, .int .i64 0, .int .i64 0, .int .i64 0, .int .i64 0, .int .i64 0, .int .i64 0] 86)) = U6 at *
    generalize Ud.heap.size = XM at *
    try simp only [Act.put, List.setIfInBounds_toArray, List.set_cons_zero, List.set_cons_succ]
    refine wpAnyH_ready (rs := [1]) (by kernel_rfl) (by simp) ?_
    refine AllReadyH.cons (o := { dst := some 8, op := _, type := _, pos := _, after := _, guard := _ }) rfl (fun K hK => ?_) AllReadyH.nil
    go_simp
    refine (kN _).mono ?_
    rintro e U7 ⟨⟨s4, rfl, hO⟩, hb⟩
    replace cP := cells_kept hb _ _ cP
    replace pP := pP.below hb
    replace pR := pR.below hb
    replace bw := bel_trans bw hb
    replace pM := pM.below hb
    replace hsz : w.heap.size + 2 ≤ U7.heap.size := Nat.le_trans hsz hb.size
    go_wp2_with fail
    refine hK.out _ _ cP (fun hS7 => ?_)
    clear hK hb
    try simp only [Act.put, List.setIfInBounds_toArray, List.set_cons_zero, List.set_cons_succ]
    refine wpAnyH_ready (rs := [2]) (by kernel_rfl) (by simp) ?_
    refine AllReadyH.cons (o := { dst := some 9, op := _, type := _, pos := _, after := _, guard := _ }) rfl (fun K hK => ?_) AllReadyH.nil
    go_simp
    refine (kM _ s4 bw (hO.mem fz)).mono ?_
    rintro e U8 ⟨rfl, hb⟩
    replace cP := cells_kept hb _ _ cP
    replace pP := pP.below hb
    replace pR := pR.below hb
    replace bw := bel_trans bw hb
    replace pM := pM.below hb
    replace hO := hO.below hb
    replace hsz : w.heap.size + 2 ≤ U8.heap.size := Nat.le_trans hsz hb.size
    go_wp2_with fail
    refine hK.out _ _ cP (fun hS8 => ?_)
    clear hK hb
    try simp only [Act.put, List.setIfInBounds_toArray, List.set_cons_zero, List.set_cons_succ]
    refine wpAnyH_take (i := 3) (oi := { dst := some 6, op := _, type := _, pos := _, after := _, guard := _ }) (v := .tuple #[.agg #[.slice da0 dn0 dc0, .int .i64 p0, .int .i64 x0, .int .i64 y0, .slice da1 dn1 dc1, .int .i64 p1, .int .i64 x1, .int .i64 y1, .slice da2 dn2 dc2, .int .i64 p2, .int .i64 x2, .int .i64 y2, .int .i64 v0, .int .i64 v1, .int .i64 v2, .int .i64 v3, .int .i64 h0, .int .i64 h1], .int .i64 c]) rfl (by kernel_rfl) (by kernel_rfl) (by kernel_rfl) (fun _ _ _ h => h) (Or.inl ⟨by rfl, ?_⟩) (by assumption) ?_
    · (intro w' hSw; (try dsimp only at hSw); go_simp; try rfl)
    simp only [Act.put, List.setIfInBounds_toArray, List.set_cons_zero, List.set_cons_succ]
    refine wpAnyH_take (i := 4) (oi := { dst := some 10, op := _, type := _, pos := _, after := _, guard := _ }) (v := .agg #[.slice da0 dn0 dc0, .int .i64 p0, .int .i64 x0, .int .i64 y0, .slice da1 dn1 dc1, .int .i64 p1, .int .i64 x1, .int .i64 y1, .slice da2 dn2 dc2, .int .i64 p2, .int .i64 x2, .int .i64 y2, .int .i64 v0, .int .i64 v1, .int .i64 v2, .int .i64 v3, .int .i64 h0, .int .i64 h1]) rfl (by kernel_rfl) (by kernel_rfl) (by kernel_rfl) (fun _ _ _ h => h) (Or.inl ⟨by rfl, ?_⟩) (by assumption) ?_
    · (intro w' hSw; (try dsimp only at hSw); go_simp; try rfl)
    simp only [Act.put, List.setIfInBounds_toArray, List.set_cons_zero, List.set_cons_succ]
    refine wpAnyH_take (i := 5) (oi := { dst := some 11, op := _, type := _, pos := _, after := _, guard := _ }) (v := .int .i64 c) rfl (by kernel_rfl) (by kernel_rfl) (by kernel_rfl) (fun _ _ _ h => h) (Or.inl ⟨by rfl, ?_⟩) (by assumption) ?_
    · (intro w' hSw; (try dsimp only at hSw); go_simp; try rfl)
    simp only [Act.put, List.setIfInBounds_toArray, List.set_cons_zero, List.set_cons_succ]
    refine wpAnyH_ready (rs := [7]) (by kernel_rfl) (by simp) ?_
    refine AllReadyH.cons (o := { dst := none, op := _, type := _, pos := _, after := _, guard := _ }) rfl (fun K hK => ?_) AllReadyH.nil
    refine step_store_blkD rfl 86 _ _ rfl XM [.slice da0 dn0 dc0, .int .i64 p0, .int .i64 x0, .int .i64 y0, .slice da1 dn1 dc1, .int .i64 p1, .int .i64 x1, .int .i64 y1, .slice da2 dn2 dc2, .int .i64 p2, .int .i64 x2, .int .i64 y2, .int .i64 v0, .int .i64 v1, .int .i64 v2, .int .i64 v3, .int .i64 h0, .int .i64 h1] rfl rfl pM (by kernel_rfl) rfl rfl ?_
    intro U9 pM2 g2
    have hne : w.heap.size ≠ XM := by omega
    have hne1 : w.heap.size + 1 ≠ XM := by omega
    replace pP := pP.kept g2 (fun e => hne (by cases e; rfl))
    replace pR := pR.kept g2 (fun e => hne1 (by cases e; rfl))
    replace bw := bw.grown g2 bw.size (fun k e => by cases e; omega)
    refine hK.out _ _ (by simpa using pP.cell 0) (fun hS9 => ?_)
    clear hK hO
    try simp only [Act.put, List.setIfInBounds_toArray, List.set_cons_zero, List.set_cons_succ]
    refine wpAnyH_take (i := 8) (oi := { dst := some 5, op := _, type := _, pos := _, after := _, guard := _ }) (v := .int .i64 c) rfl (by kernel_rfl) (by kernel_rfl) (by kernel_rfl) (fun _ _ _ h => h) (Or.inl ⟨by rfl, ?_⟩) (by assumption) ?_
    · (intro w' hSw; (try dsimp only at hSw); go_simp; try rfl)
    simp only [Act.put, List.setIfInBounds_toArray, List.set_cons_zero, List.set_cons_succ]
    refine wpAnyH_done (by kernel_rfl) ?_ _
    clear hS9 cP hS0 pM
    have pM := pM2.out
    clear pM2 pP
    go_wp2_with (first | refine wpList_load_blk rfl 86 _ rfl XM rfl pM _ Tryd.underlying86 rfl (by kernel_rfl) ?_ | refine wpList_store_blk rfl 88 _ _ rfl (w.heap.size + 1) [.slice da0 dn0 dc0, .int .i64 p0, .int .i64 x0, .int .i64 y0, .slice da1 dn1 dc1, .int .i64 p1, .int .i64 x1, .int .i64 y1, .slice da2 dn2 dc2, .int .i64 p2, .int .i64 x2, .int .i64 y2, .int .i64 v0, .int .i64 v1, .int .i64 v2, .int .i64 v3, .int .i64 h0, .int .i64 h1, .slice none 0 0] rfl rfl pR (by kernel_rfl) rfl rfl ?_)
    intro U10 pR2 g3
    have bw2 := bw.grown g3 bw.size (fun k e => by cases e; omega)
    clear bw g2 g3 pM pR
    go_wp2_with fail
    refine bodyPost_ret (results_blk2 Tryd.results50 _ _ _ _ _ _ rfl pR2.out Tryd.underlying88 rfl (by kernel_rfl)) rfl ?_
    exact ⟨rfl, bw2⟩

end Go.Proofs.YtmhngodbnoonhaaDoor


/-
  The specification's l04Merge, l04All, MergeBugs; the program's bugsOK.
-/
namespace Go.Proofs.YtmhngodbnoonhaaDoor
open Go.RowKit
set_option linter.unusedVariables false
set_option linter.unusedSimpArgs false

def BugsOne (e : Ending) (w : World) (B : Nat) (zs : List I3) : Prop := ∃ v, e = .returned v ∧ w.ownsRow B 40 3 v zs.length (flat zs)
theorem fits_put {zs : List I3} {x : I3} (h : ∀ z ∈ zs, I3.fits z) (hx : I3.fits x) : ∀ z ∈ putB zs x, I3.fits z := fun z hz => by
  rcases mem_putB.1 hz with e | e
  · exact h z e
  · rw [e]; exact hx
theorem fits_putAll {xs ys : List I3} (h : ∀ z ∈ xs, I3.fits z) (k : ∀ z ∈ ys, I3.fits z) : ∀ z ∈ putAll xs ys, I3.fits z := fun z hz => by
  rcases mem_putAll.1 hz with e | e
  · exact h z e
  · exact k z e
theorem putAll_snoc (out xs : List I3) {k : Nat} (hk : k < xs.length) : putAll out (xs.take (k + 1)) = putB (putAll out (xs.take k)) (xs.getD k (0, 0, 0)) := by
  unfold putAll
  rw [List.take_add_one, List.foldl_append, List.getElem?_eq_getElem hk]
  simp [List.getD, List.getElem?_eq_getElem hk]
theorem getD_memB {xs : List I3} {k : Nat} (hk : k < xs.length) : xs.getD k (0, 0, 0) ∈ xs := by
  rw [List.getD, List.getElem?_eq_getElem hk, Option.getD_some]
  exact List.getElem_mem hk
def Under (w wr : World) (v : Value) (zs : List I3) : Prop := (∃ g c, v = .slice (some ⟨g, 0, none⟩) zs.length c) ∧ wr.ownsRow w.heap.size 40 3 v zs.length (flat zs) ∧ (∀ z ∈ zs, I3.fits z) ∧ zs.length ≤ 1000000


set_option maxHeartbeats 4000000 in
set_option maxRecDepth 100000 in
theorem l04Merge_is (a0 : Option Addr) (n0 c0 : Nat) (xs : List I3) (a1 : Option Addr) (n1 c1 : Nat) (ys : List I3) (w : World) (h0 : Instrs w a0 n0 c0 xs) (h1 : Instrs w a1 n1 c1 ys) (m0 : n0 ≤ 400000) (m1 : n1 ≤ 400000) :
    Calls Tryd.prog 103 #[.slice a0 n0 c0, .slice a1 n1 c1] w fun e w' => BugsOne e w' w.heap.size (mergeB xs ys) ∧ Below w.heap.size w w' := by
  have l0 := h0.1
  have l1 := h1.1
  have f0 := h0.2.2.2.1
  have f1 := h1.2.2.2.1
  have q0 : Under w (w.alloc (.cells #[] 40)) (.slice (some ⟨w.heap.size, 0, none⟩) 0 0) [] := ⟨⟨_, _, rfl⟩, own_emptyB w 40 3 w.heap.size (Nat.le_refl _), by simp, by simp⟩
  have bw0 : Below w.heap.size w (w.alloc (.cells #[] 40)) := by go_grown
  go_enter Tryd.func103, Tryd.ntmps103
  go_wp2_with fail
  generalize w.alloc (.cells #[] 40) = W0 at *
  go_loopw [5, 6] (fun so si wr => ∃ (k : Nat) (v : Value), v = so ∧ k ≤ n0 ∧ si = .int .i64 k ∧ Under w wr v (putAll [] (xs.take k)) ∧ Below w.heap.size w wr) (fun _ si _ => n0 - (intOf si).toNat)
  case atStart => exact ⟨0, _, rfl, by omega, rfl, q0, bw0⟩
  case round =>
    clear q0 bw0
    obtain ⟨k, so, rfl, hk, rfl, ⟨⟨g, c, rfl⟩, hq, hf, hz⟩, bw⟩ := hrel
    by_cases hlt : k < n0
    · obtain ⟨zs, hzs⟩ : ∃ zs, zs = putAll [] (xs.take k) := ⟨_, rfl⟩
      rw [← hzs] at hq hf hz
      try rw [← hzs]
      have hZ := Instrs.of_owns hq rfl hf rfl
      obtain ⟨_, _, _, _, hcase⟩ := h0.below bw
      rcases hcase with e0 | ⟨b, off, rfl, hb, hc⟩
      · omega
      obtain ⟨d0, d1, d2⟩ := hc k hlt
      clear hc hb
      obtain ⟨x, hx⟩ : ∃ x, x = xs.getD k (0, 0, 0) := ⟨_, rfl⟩
      have hfx : I3.fits x := by rw [hx]; exact f0 _ (getD_memB (by omega))
      have hnew : putB zs x = putAll [] (xs.take (k + 1)) := by rw [hzs, hx]; exact (putAll_snoc [] xs (by omega)).symm
      rw [← hx] at d0 d1 d2
      have HN : Hid (putB zs x = putAll [] (xs.take (k + 1))) := hnew
      have hzl : zs.length ≤ k := by rw [hzs]; have := putAll_len (xs.take k) []; simp at this; omega
      clear hx hnew hzs
      have kP := l04Put_is g 0 zs.length c zs x wr hZ (by omega)
      have hpl := putB_len zs x
      have hpf := fits_put hf hfx
      have hp0 : 0 < (putB zs x).length := List.length_pos_of_mem (mem_putB.2 (.inr rfl))
      generalize zs.length = m at *
      obtain ⟨x0, x1, x2⟩ := x
      unfold I3.val at kP
      simp only at d0 d1 d2 kP
      clear hZ hq
      have hlt' : (k : Int) < (n0 : Int) := by omega
      have hk0 : (0 : Int) ≤ (k : Int) := by omega
      go_wp2_with fail
      refine kP.mono ?_
      rintro e w1 ⟨⟨v1, rfl, hq1⟩, hb1⟩
      clear kP d0 d1 d2
      have bw1 := bel_trans bw hb1
      obtain ⟨g1, e1, rfl⟩ := own_someB hq1 hp0
      have hU : Under w w1 (.slice (some ⟨g1, 0, none⟩) (putB zs (x0, x1, x2)).length e1) (putAll [] (xs.take (k + 1))) := by
        rw [← HN.out]
        exact ⟨⟨_, _, rfl⟩, own_lowerB hq1 bw.size, hpf, by omega⟩
      generalize (putB zs (x0, x1, x2)).length = m1 at *
      clear hq1 hpf
      go_wp2
      go_roundw
      case rel => exact ⟨k + 1, _, rfl, by omega, by go_num, hU, bw1⟩
      case measure => simp [intOf]; omega
    · obtain rfl : k = n0 := by omega
      have hU : Under w wr (.slice (some ⟨g, 0, none⟩) (putAll [] (xs.take k)).length c) (putAll (putAll [] xs) (ys.take 0)) := by
        have e : xs.take k = xs := List.take_of_length_le (by omega)
        rw [e] at hq hf hz ⊢
        exact ⟨⟨_, _, rfl⟩, hq, hf, hz⟩
      have hal : (putAll [] xs).length ≤ k := by have := putAll_len xs []; simp at this; omega
      have haf : ∀ z ∈ putAll [] xs, I3.fits z := fits_putAll (by simp) f0
      generalize (putAll [] (xs.take k)).length = m at *
      clear hq hf hz h0
      go_wp2_with fail
      go_loopw [5, 7] (fun so si wr => ∃ (j : Nat) (v : Value), v = so ∧ j ≤ n1 ∧ si = .int .i64 j ∧ Under w wr v (putAll (putAll [] xs) (ys.take j)) ∧ Below w.heap.size w wr) (fun _ si _ => n1 - (intOf si).toNat)
      case atStart => exact ⟨0, _, rfl, by omega, rfl, hU, bw⟩
      case round =>
        clear hU bw
        obtain ⟨j, so, rfl, hj, rfl, ⟨⟨g, c, rfl⟩, hq, hf, hz⟩, bw⟩ := hrel
        by_cases hltj : j < n1
        · obtain ⟨zs, hzs⟩ : ∃ zs, zs = putAll (putAll [] xs) (ys.take j) := ⟨_, rfl⟩
          rw [← hzs] at hq hf hz
          try rw [← hzs]
          have hZ := Instrs.of_owns hq rfl hf rfl
          obtain ⟨_, _, _, _, hcase⟩ := h1.below bw
          rcases hcase with e0 | ⟨b, off, rfl, hb, hc⟩
          · omega
          obtain ⟨d0, d1, d2⟩ := hc j hltj
          clear hc hb
          obtain ⟨x, hx⟩ : ∃ x, x = ys.getD j (0, 0, 0) := ⟨_, rfl⟩
          have hfx : I3.fits x := by rw [hx]; exact f1 _ (getD_memB (by omega))
          have hnew : putB zs x = putAll (putAll [] xs) (ys.take (j + 1)) := by rw [hzs, hx]; exact (putAll_snoc _ ys (by omega)).symm
          rw [← hx] at d0 d1 d2
          have HN : Hid (putB zs x = putAll (putAll [] xs) (ys.take (j + 1))) := hnew
          have hzl : zs.length ≤ k + j := by rw [hzs]; have := putAll_len (ys.take j) (putAll [] xs); simp at this; omega
          clear hx hnew hzs
          have kP := l04Put_is g 0 zs.length c zs x _ hZ (by omega)
          have hpl := putB_len zs x
          have hpf := fits_put hf hfx
          have hp0 : 0 < (putB zs x).length := List.length_pos_of_mem (mem_putB.2 (.inr rfl))
          generalize zs.length = mm at *
          obtain ⟨x0, x1, x2⟩ := x
          unfold I3.val at kP
          simp only at d0 d1 d2 kP
          clear hZ hq
          have hlt' : (j : Int) < (n1 : Int) := by omega
          have hk0 : (0 : Int) ≤ (j : Int) := by omega
          go_wp2_with fail
          refine kP.mono ?_
          rintro e w1 ⟨⟨v1, rfl, hq1⟩, hb1⟩
          clear kP d0 d1 d2
          have bw1 := bel_trans bw hb1
          obtain ⟨g1, e1, rfl⟩ := own_someB hq1 hp0
          have hU : Under w w1 (.slice (some ⟨g1, 0, none⟩) (putB zs (x0, x1, x2)).length e1) (putAll (putAll [] xs) (ys.take (j + 1))) := by
            rw [← HN.out]
            exact ⟨⟨_, _, rfl⟩, own_lowerB hq1 bw.size, hpf, by omega⟩
          generalize (putB zs (x0, x1, x2)).length = m1 at *
          clear hq1 hpf
          go_wp2
          go_roundw
          case rel => exact ⟨j + 1, _, rfl, by omega, by go_num, hU, bw1⟩
          case measure => simp [intOf]; omega
        · obtain rfl : j = n1 := by omega
          have e : ys.take j = ys := List.take_of_length_le (by omega)
          rw [e] at hq hf hz
          try rw [e]
          obtain ⟨mm, hmm⟩ : ∃ mm, mm = (putAll (putAll [] xs) ys).length := ⟨_, rfl⟩
          rw [← hmm]
          have HQ : Hid (∀ e, e = .returned (.slice (some ⟨g, 0, none⟩) mm c) → BugsOne e wr w.heap.size (mergeB xs ys)) := fun e he => ⟨_, he, by rw [hmm]; exact hq⟩
          clear hq hmm hz
          go_wp2
          go_ret
          exact ⟨HQ.out _ rfl, bw⟩


end Go.Proofs.YtmhngodbnoonhaaDoor


/-
  The program's mergedBugs: concat, sort, compact: both lists merged; MergeBugs.
-/
namespace Go.Proofs.YtmhngodbnoonhaaDoor
open Go.RowKit Go.Sort Go.Shelf
set_option linter.unusedVariables false
set_option linter.unusedSimpArgs false

def GoodS (a : Option Addr) (c : Nat) : Prop := (a = none → c = 0) ∧ ∀ x, a = some x → x.spot = none
end Go.Proofs.YtmhngodbnoonhaaDoor


/-
  Runs in plain words, more: what a run keeps are right bugs, and its states have their shape.
-/
namespace Go.Proofs.YtmhngodbnoonhaaDoor
open Go.RowKit
set_option linter.unusedVariables false

theorem step_codeQ (m : V4) (x : I3) (k : Nat) : (stepM m x k).2 = 0 ∨ (stepM m x k).2 = 12 ∨ (stepM m x k).2 = 13 := by
  unfold stepM
  repeat' split
  all_goals simp
theorem ownM_ok {rows : List (List I3)} {m : V4} {k : Int} (hp : progOk rows = true) (hs : shapeOk m = true) (hz : haltM rows m k = 0) : ∀ x ∈ ownM rows m k, okB x = true := by
  obtain ⟨h0, h2, hd, hc⟩ := halt_can hz
  obtain ⟨q, rfl⟩ : ∃ q : Nat, k = q := ⟨k.toNat, by omega⟩
  rw [Int.toNat_natCast] at hd
  have hq : q < 3 := by omega
  obtain ⟨p, ep, hlt, _, _⟩ := at_ins hp hs hq hd
  have hl6 := (codeM_len hp hq).1
  have hf := step_codeQ m (insM rows m q) q
  intro x hx
  unfold ownM goM at hx
  rw [Int.toNat_natCast] at hx
  split at hx
  · simp at hx
  · rename_i h9
    simp only [List.mem_singleton] at hx
    subst hx
    unfold okB
    simp only
    have h12 : (stepM m (insM rows m q) q).2 = 12 ∨ (stepM m (insM rows m q) q).2 = 13 := by omega
    rw [if_neg (by omega), if_pos h12, ep]
    rw [Bool.and_eq_true]
    exact ⟨inB_true.2 (by omega), inB_true.2 (by omega)⟩
theorem goM_shape {rows : List (List I3)} {m : V4} {k : Int} (hp : progOk rows = true) (hs : shapeOk m = true) (hz : haltM rows m k = 0) : shapeOk (goM rows m k).1 = true := by
  obtain ⟨h0, h2, hd, hc⟩ := halt_can hz
  exact shape_step hp hs (by omega) hd
theorem runI_ok {rows : List (List I3)} (hp : progOk rows = true) : ∀ (ks : List Int) (m : V4) (fs : List I3), shapeOk m = true → (∀ x ∈ fs, okB x = true) → shapeOk (runI rows m fs ks).1 = true ∧ ∀ x ∈ (runI rows m fs ks).2.1, okB x = true
  | [], m, fs, hs, hf => ⟨hs, hf⟩
  | k :: ks, m, fs, hs, hf => by
    by_cases hz : haltM rows m k = 0
    · have e2 : runI rows m fs (k :: ks) = runI rows (goM rows m k).1 (fs ++ ownM rows m k) ks := by
        show (if haltM rows m k = 0 then _ else _) = _
        rw [if_pos hz]
      rw [e2]
      exact runI_ok hp ks _ _ (goM_shape hp hs hz) fun x hx => (List.mem_append.1 hx).elim (hf x) (ownM_ok hp hs hz x)
    · have e2 : runI rows m fs (k :: ks) = (m, fs, haltM rows m k) := by
        show (if haltM rows m k = 0 then _ else _) = _
        rw [if_neg hz]
      rw [e2]
      exact ⟨hs, hf⟩
theorem okB_fitsQ {x : I3} (h : okB x = true) : I3.fits x := by
  unfold okB at h
  split at h
  · rename_i h1
    simp only [Bool.and_eq_true, decide_eq_true_eq] at h
    exact ⟨fits_small (by omega) (by omega), fits_small (by omega) (by omega), fits_small (by omega) (by omega)⟩
  · split at h
    · rename_i h1
      rw [Bool.and_eq_true] at h
      have a := inB_true.1 h.1
      have b := inB_true.1 h.2
      exact ⟨fits_small (by omega) (by omega), fits_small (by omega) (by omega), fits_small (by omega) (by omega)⟩
    · cases h
end Go.Proofs.YtmhngodbnoonhaaDoor


/-
  A new replay of a right program, and of another; a replay's bugs.
-/
namespace Go.Proofs.YtmhngodbnoonhaaDoor
open Go.RowKit
set_option linter.unusedVariables false
set_option linter.unusedSimpArgs false

theorem newReplay_ok {a : Option Addr} {len cap : Nat} {rows : List (List I3)} {w : World} {cs : Sl × Sl × Sl} (hC : Codes w a len cap rows) (hV : VmShape w) (hp : progOk rows = true) (hR : RowsAt w a cs rows) :
    Calls Tryd.prog 50 #[.agg #[.slice a len cap]] w fun e w' => e = .returned (.tuple #[.agg (Rp.machR (.slice none 0 0) cs.1.val cs.2.1.val cs.2.2.val zeroV).toArray, .int .i64 0]) ∧ Below w.heap.size w w' := by
  refine newReplay_of a len cap w 0 cs.1.1 cs.1.2.1 cs.1.2.2 cs.2.1.1 cs.2.1.2.1 cs.2.1.2.2 cs.2.2.1 cs.2.2.2.1 cs.2.2.2.2 0 0 0 0 0 0 0 0 0 0 0 0 0 0 0 fun W s bW hs => ?_
  refine (machineOf_ok a len cap rows s zeroV W (hC.below bW) hs (hV.below bW) hp zero_shape).mono ?_
  rintro e w' ⟨⟨cs', rfl, hR'⟩, hb⟩
  obtain rfl := hR'.uniq (hR.below bW)
  exact ⟨rfl, hb⟩
theorem newReplay_bad {a : Option Addr} {len cap : Nat} {rows : List (List I3)} {w : World} (hC : Codes w a len cap rows) (hV : VmShape w) (hp : progOk rows = false) :
    Calls Tryd.prog 50 #[.agg #[.slice a len cap]] w fun e w' => e = .returned (.tuple #[.agg #[.slice none 0 0, .int .i64 0, .int .i64 0, .int .i64 0, .slice none 0 0, .int .i64 0, .int .i64 0, .int .i64 0, .slice none 0 0, .int .i64 0, .int .i64 0, .int .i64 0, .int .i64 0, .int .i64 0, .int .i64 0, .int .i64 0, .int .i64 0, .int .i64 0, .slice none 0 0], .int .i64 1]) ∧ Below w.heap.size w w' := by
  refine newReplay_of a len cap w 1 none 0 0 none 0 0 none 0 0 0 0 0 0 0 0 0 0 0 0 0 0 0 0 0 fun W s bW hs => ?_
  exact machineOf_bad a len cap rows s zeroV W (hC.below bW) hs (hV.below bW) (by rw [hp]; rfl)

theorem bugs_sliceR {w : World} {B : Nat} {v : Value} {xs : List I3} (h : w.ownsRow B 40 3 v xs.length (flat xs)) (hf : ∀ x ∈ xs, I3.fits x) : ∃ a cap, v = .slice a xs.length cap ∧ Instrs w a xs.length cap xs ∧ GoodS a cap := by
  rcases h.2 with ⟨rfl, h0⟩ | ⟨g, cap, cur, hv, _⟩
  · exact ⟨none, 0, by rw [h0], ⟨rfl, by omega, by unfold maxLen; omega, hf, .inl h0⟩, fun _ => rfl, fun x hx => by cases hx⟩
  · subst hv
    exact ⟨_, _, rfl, Instrs.of_owns h rfl hf rfl, (fun h => by cases h), fun x hx => by cases hx; rfl⟩

end Go.Proofs.YtmhngodbnoonhaaDoor

