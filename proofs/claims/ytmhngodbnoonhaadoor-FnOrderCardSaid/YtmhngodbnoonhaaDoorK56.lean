/-
  Joined: WitWalk, WitA.
-/
import Derived.Test.YtmhngodbnoonhaaDoorK04
import Derived.Test.YtmhngodbnoonhaaDoorK08
import Derived.Test.YtmhngodbnoonhaaDoorK01
import Derived.Test.YtmhngodbnoonhaaDoorK02
import Derived.Test.YtmhngodbnoonhaaDoorK07
import Derived.Test.YtmhngodbnoonhaaDoorK11
import Derived.Test.YtmhngodbnoonhaaDoorK21
import Derived.Deep.RegionHeld3
import Derived.Test.YtmhngodbnoonhaaDoorK44
import Derived.BigQuiet

/-
  FnExactIsWitness, given what both answer: the law's walk.
-/
namespace Go.Proofs.YtmhngodbnoonhaaDoor
open Go.RowKit
set_option linter.unusedVariables false
set_option linter.unusedSimpArgs false

set_option maxHeartbeats 800000 in
set_option maxRecDepth 100000 in
theorem fnExactIsWitness_of (a0 : Option Addr) (n0 c0 : Nat) (r0 : List (List I3)) (a1 : Option Addr) (n1 c1 : Nat) (y : I3) (k1 : List Int) (x0 : Bool) (x1 : Int) (w : World) (h0 : Codes w a0 n0 c0 r0) (h1 : Ints .i64 w a1 n1 c1 k1) (hG : VmShape w)
    (kS : ∀ (a0 : Option Addr) (n0 c0 : Nat) (a1 : Option Addr) (n1 c1 : Nat) (w : World), Codes w a0 n0 c0 r0 → Ints .i64 w a1 n1 c1 k1 → Calls Tryd.prog 26 #[.agg #[.slice a0 n0 c0], .slice a1 n1 c1, y.val] w fun e w' => e = .returned (.tuple #[.bool x0, .int .i64 x1]) ∧ Below w.heap.size w w')
    (kI : ∀ (a0 : Option Addr) (n0 c0 : Nat) (a1 : Option Addr) (n1 c1 : Nat) (w : World), Codes w a0 n0 c0 r0 → Ints .i64 w a1 n1 c1 k1 → VmShape w → Calls Tryd.prog 17 #[.agg #[.slice a0 n0 c0], .slice a1 n1 c1, y.val] w fun e w' => e = .returned (.tuple #[.bool x0, .int .i64 x1]) ∧ Below w.heap.size w w') :
    Calls Tryd.prog 5 #[.agg #[.slice a0 n0 c0], .slice a1 n1 c1, y.val] w fun e w' => e = .returned (.bool true) ∧ Below w.heap.size w w' := by
  obtain ⟨y0, y1, y2⟩ := y
  have tB := toBug_same (y0, y1, y2)
  unfold I3.val at *
  simp only at kS kI tB ⊢
  have kT := fun W h => toProgram_copy a0 n0 c0 r0 W h
  have kL1 := fun W h hl => toIntS_any a1 n1 c1 k1 W h hl
  have bw : Below w.heap.size w ((w.alloc (.cells #[.slice a0 n0 c0] 52)).alloc (.cells #[.int .i64 y0, .int .i64 y1, .int .i64 y2] 53)) := by go_grown
  have p0 : Blk ((w.alloc (.cells #[.slice a0 n0 c0] 52)).alloc (.cells #[.int .i64 y0, .int .i64 y1, .int .i64 y2] 53)) w.heap.size 52 [.slice a0 n0 c0] := blkOld _ (blkAt _ _ _ rfl)
  have pB : Blk ((w.alloc (.cells #[.slice a0 n0 c0] 52)).alloc (.cells #[.int .i64 y0, .int .i64 y1, .int .i64 y2] 53)) (w.heap.size + 1) 53 [.int .i64 y0, .int .i64 y1, .int .i64 y2] := blkAt _ _ _ (by simp)
  by_cases g1 : 1048576 < n1
  · have g9 : (1048576 : Int) < (n1 : Int) := by omega
    clear g1 kS kI kT p0 pB tB kL1
    go_enter Tryd.func5, Tryd.ntmps5
    go_wp2
    go_ret
    exact ⟨rfl, bw⟩
  have e1 : ¬ (1048576 : Int) < (n1 : Int) := by omega
  replace kL1 := fun W h => kL1 W h (by omega)
  clear g1
  go_enter Tryd.func5, Tryd.ntmps5
  go_wp2_with fail
  generalize ((w.alloc (.cells #[.slice a0 n0 c0] 52)).alloc (.cells #[.int .i64 y0, .int .i64 y1, .int .i64 y2] 53)) = W0 at *
  go_wp2_with (first | refine wpList_load_blk rfl 52 _ rfl w.heap.size rfl p0 _ Tryd.underlying52 rfl (by kernel_rfl) ?_)
  have hz := sizeLeft_or r0 1048576 (by omega)
  have hbd := size_bounds (rows := r0) (left := 1048576) (by omega)
  refine (szProgram_less a0 n0 c0 r0 1048576 _ (h0.below bw) (by omega) (by omega)).mono ?_
  rintro e wz ⟨rfl, hb⟩
  generalize sizeLeft 1048576 r0 = zl at hz hbd
  replace bw := bel_trans bw hb
  replace p0 := p0.below hb
  replace pB := pB.below hb
  clear hb
  rcases hz with rfl | ⟨yl, xl⟩
  · clear hbd
    go_wp2
    go_ret
    exact ⟨rfl, bw⟩
  obtain ⟨hr, hr'⟩ := hbd yl (by omega)
  have hlen : n0 ≤ 1048576 := by rw [← h0.1]; exact hr
  replace kT := fun W h => kT W h hlen (fun t _ => hr' t)
  clear hbd hr hr' hlen
  have hn0 : decide (zl < 0) = false := by simp; omega
  clear yl xl
  have b9 := p0.cell 0
  have b0 := pB.cell 0
  have b1 := pB.cell 1
  have b2 := pB.cell 2
  simp only [List.getElem?_cons_zero, List.getElem?_cons_succ] at b9 b0 b1 b2
  go_wp2_with fail
  have hdr : Below wz.heap.size wz wz.drew := by go_grown
  have bd := bel_trans bw hdr
  refine wp_region_held_drew (S := (fun w' => w'.cell? ⟨w.heap.size, 0, none⟩ = some (.slice a0 n0 c0) ∧ w'.cell? ⟨w.heap.size + 1, 0, none⟩ = some (.int .i64 y0) ∧ w'.cell? ⟨w.heap.size + 1, 1, none⟩ = some (.int .i64 y1) ∧ w'.cell? ⟨w.heap.size + 1, 2, none⟩ = some (.int .i64 y2))) (by kernel_rfl) ⟨b9, b0, b1, b2⟩ (fun hS0 => ?_)
  refine wpAnyH_take (i := 0) (oi := { dst := some 23, op := _, type := _, pos := _, after := _, guard := _ }) (v := .agg #[.slice a0 n0 c0]) rfl (by kernel_rfl) (by kernel_rfl) (by kernel_rfl) (fun _ _ _ h => h) (Or.inl ⟨by rfl, ?_⟩) (by assumption) ?_
  · (intro w' hSw; (try dsimp only at hSw); go_simp; try rfl)
  simp only [Act.put, List.setIfInBounds_toArray, List.set_cons_zero, List.set_cons_succ]
  refine wpAnyH_take (i := 2) (oi := { dst := some 25, op := _, type := _, pos := _, after := _, guard := _ }) (v := .slice a1 n1 c1) rfl (by kernel_rfl) (by kernel_rfl) (by kernel_rfl) (fun _ _ _ h => h) (Or.inl ⟨by rfl, ?_⟩) (by assumption) ?_
  · (intro w' hSw; (try dsimp only at hSw); go_simp; try rfl)
  simp only [Act.put, List.setIfInBounds_toArray, List.set_cons_zero, List.set_cons_succ]
  refine wpAnyH_take (i := 4) (oi := { dst := some 27, op := _, type := _, pos := _, after := _, guard := _ }) (v := .agg #[.int .i64 y0, .int .i64 y1, .int .i64 y2]) rfl (by kernel_rfl) (by kernel_rfl) (by kernel_rfl) (fun _ _ _ h => h) (Or.inl ⟨by rfl, ?_⟩) (by assumption) ?_
  · (intro w' hSw; (try dsimp only at hSw); go_simp; try rfl)
  simp only [Act.put, List.setIfInBounds_toArray, List.set_cons_zero, List.set_cons_succ]
  refine wpAnyH_ready (rs := [1]) (by kernel_rfl) (by simp) ?_
  refine AllReadyH.cons (o := { dst := some 24, op := _, type := _, pos := _, after := _, guard := _ }) rfl (fun K hK => ?_) AllReadyH.nil
  go_simp
  refine (kT _ (h0.below bd)).mono ?_
  rintro e wa ⟨rfl, hO, hb1⟩
  go_wp2_with fail
  refine hK.out _ _ ?_ (fun hS1 => ?_)
  · exact ⟨cells_kept hb1 _ _ hS0.1, cells_kept hb1 _ _ hS0.2.1, cells_kept hb1 _ _ hS0.2.2.1, cells_kept hb1 _ _ hS0.2.2.2⟩
  clear hK
  have hA := hO.codes
  clear hO
  refine wpAnyH_ready (rs := [3]) (by kernel_rfl) (by simp) ?_
  refine AllReadyH.cons (o := { dst := some 26, op := _, type := _, pos := _, after := _, guard := _ }) rfl (fun K hK => ?_) AllReadyH.nil
  go_simp
  refine (kL1 _ (h1.below (bel_trans bd hb1))).mono ?_
  rintro e wb ⟨rfl, hO, hb2⟩
  go_wp2_with fail
  refine hK.out _ _ ?_ (fun hS2 => ?_)
  · exact ⟨cells_kept hb2 _ _ hS1.1, cells_kept hb2 _ _ hS1.2.1, cells_kept hb2 _ _ hS1.2.2.1, cells_kept hb2 _ _ hS1.2.2.2⟩
  clear hK
  have hB1 := Ints.of_owns hO
  clear hO
  replace hA := hA.below hb2
  refine wpAnyH_ready (rs := [5]) (by kernel_rfl) (by simp) ?_
  refine AllReadyH.cons (o := { dst := some 28, op := _, type := _, pos := _, after := _, guard := _ }) rfl (fun K hK => ?_) AllReadyH.nil
  go_simp
  refine (tB _).mono ?_
  rintro e wc ⟨rfl, hb3⟩
  go_wp2_with fail
  refine hK.out _ _ ?_ (fun hS3 => ?_)
  · exact ⟨cells_kept hb3 _ _ hS2.1, cells_kept hb3 _ _ hS2.2.1, cells_kept hb3 _ _ hS2.2.2.1, cells_kept hb3 _ _ hS2.2.2.2⟩
  clear hK
  refine wpAnyH_ready (rs := [6]) (by kernel_rfl) (by simp) ?_
  refine AllReadyH.cons (o := { dst := some 29, op := _, type := _, pos := _, after := _, guard := _ }) rfl (fun K hK => ?_) AllReadyH.nil
  go_simp
  refine (kS _ _ _ _ _ _ _ (hA.below hb3) (hB1.below hb3)).mono ?_
  rintro e wr ⟨rfl, hb4⟩
  go_wp2_with fail
  refine hK.out _ _ ?_ (fun hS4 => ?_)
  · exact ⟨cells_kept hb4 _ _ hS3.1, cells_kept hb4 _ _ hS3.2.1, cells_kept hb4 _ _ hS3.2.2.1, cells_kept hb4 _ _ hS3.2.2.2⟩
  clear hK
  refine wpAnyH_take (i := 7) (oi := { dst := some 22, op := _, type := _, pos := _, after := _, guard := _ }) (v := .tuple #[.bool x0, .int .i64 x1]) rfl (by kernel_rfl) (by kernel_rfl) (by kernel_rfl) (fun _ _ _ h => h) (Or.inl ⟨by rfl, ?_⟩) (by assumption) ?_
  · (intro w' hSw; (try dsimp only at hSw); go_simp; try rfl)
  simp only [Act.put, List.setIfInBounds_toArray, List.set_cons_zero, List.set_cons_succ]
  refine wpAnyH_take (i := 8) (oi := { dst := some 30, op := _, type := _, pos := _, after := _, guard := _ }) (v := .bool x0) rfl (by kernel_rfl) (by kernel_rfl) (by kernel_rfl) (fun _ _ _ h => h) (Or.inl ⟨by rfl, ?_⟩) (by assumption) ?_
  · (intro w' hSw; (try dsimp only at hSw); go_simp; try rfl)
  simp only [Act.put, List.setIfInBounds_toArray, List.set_cons_zero, List.set_cons_succ]
  refine wpAnyH_take (i := 9) (oi := { dst := some 31, op := _, type := _, pos := _, after := _, guard := _ }) (v := .int .i64 x1) rfl (by kernel_rfl) (by kernel_rfl) (by kernel_rfl) (fun _ _ _ h => h) (Or.inl ⟨by rfl, ?_⟩) (by assumption) ?_
  · (intro w' hSw; (try dsimp only at hSw); go_simp; try rfl)
  simp only [Act.put, List.setIfInBounds_toArray, List.set_cons_zero, List.set_cons_succ]
  refine wpAnyH_take (i := 10) (oi := { dst := some 8, op := _, type := _, pos := _, after := _, guard := _ }) (v := .bool x0) rfl (by kernel_rfl) (by kernel_rfl) (by kernel_rfl) (fun _ _ _ h => h) (Or.inl ⟨by rfl, ?_⟩) (by assumption) ?_
  · (intro w' hSw; (try dsimp only at hSw); go_simp; try rfl)
  simp only [Act.put, List.setIfInBounds_toArray, List.set_cons_zero, List.set_cons_succ]
  refine wpAnyH_take (i := 11) (oi := { dst := some 9, op := _, type := _, pos := _, after := _, guard := _ }) (v := .int .i64 x1) rfl (by kernel_rfl) (by kernel_rfl) (by kernel_rfl) (fun _ _ _ h => h) (Or.inl ⟨by rfl, ?_⟩) (by assumption) ?_
  · (intro w' hSw; (try dsimp only at hSw); go_simp; try rfl)
  simp only [Act.put, List.setIfInBounds_toArray, List.set_cons_zero, List.set_cons_succ]
  refine wpAnyH_done (by kernel_rfl) ?_ _
  have hb9 : Below wz.heap.size wz wr := bel_trans hdr (bel_trans hb1 (bel_trans hb2 (bel_trans hb3 hb4)))
  replace bw := bel_trans bw hb9
  replace p0 := p0.below hb9
  replace pB := pB.below hb9
  clear hb9 hb1 hb2 hb3 hb4 hdr bd hS0 hS1 hS2 hS3 hS4 hA hB1 kS b9 b0 b1 b2
  go_wp2_with (first | refine wpList_load_blk rfl 52 _ rfl w.heap.size rfl p0 _ Tryd.underlying52 rfl (by kernel_rfl) ?_)
  refine (kT _ (h0.below bw)).mono ?_
  rintro e wx ⟨rfl, hO, hb⟩
  have hX := hO.codes
  clear hO
  generalize wr.heap.size + 3 = gx at hX ⊢
  replace bw := bel_trans bw hb
  replace p0 := p0.below hb
  replace pB := pB.below hb
  clear hb
  have ha : Below wx.heap.size wx (wx.alloc (.cells #[.slice (some ⟨gx, 0, none⟩) n0 n0] 25)) := by go_grown
  have pX : Blk (wx.alloc (.cells #[.slice (some ⟨gx, 0, none⟩) n0 n0] 25)) wx.heap.size 25 [.slice (some ⟨gx, 0, none⟩) n0 n0] := blkAt _ _ _ rfl
  replace bw := bel_trans bw ha
  replace p0 := p0.below ha
  replace pB := pB.below ha
  replace hX := hX.below ha
  clear ha
  go_wp2_with fail
  generalize wx.alloc (.cells #[.slice (some ⟨gx, 0, none⟩) n0 n0] 25) = wp at *
  generalize wx.heap.size = GX at *
  refine (kL1 _ (h1.below bw)).mono ?_
  rintro e wy1 ⟨rfl, hO, hb⟩
  have hY1 := Ints.of_owns hO
  clear hO
  generalize wp.heap.size = gy1 at hY1 ⊢
  replace bw := bel_trans bw hb
  replace p0 := p0.below hb
  replace pB := pB.below hb
  replace hX := hX.below hb
  replace pX := pX.below hb
  clear hb
  have hne0 : (x0 != x0) = false := by simp
  have hne1 : (x1 != x1) = false := by simp
  have b9 := pX.cell 0
  have b0 := pB.cell 0
  have b1 := pB.cell 1
  have b2 := pB.cell 2
  simp only [List.getElem?_cons_zero, List.getElem?_cons_succ] at b9 b0 b1 b2
  go_wp2_with fail
  have hdr : Below wy1.heap.size wy1 wy1.drew := by go_grown
  refine wp_region_held_drew (S := (fun w' => w'.cell? ⟨GX, 0, none⟩ = some (.slice (some ⟨gx, 0, none⟩) n0 n0) ∧ w'.cell? ⟨w.heap.size + 1, 0, none⟩ = some (.int .i64 y0) ∧ w'.cell? ⟨w.heap.size + 1, 1, none⟩ = some (.int .i64 y1) ∧ w'.cell? ⟨w.heap.size + 1, 2, none⟩ = some (.int .i64 y2))) (by kernel_rfl) ⟨b9, b0, b1, b2⟩ (fun hS0 => ?_)
  refine wpAnyH_take (i := 0) (oi := { dst := some 37, op := _, type := _, pos := _, after := _, guard := _ }) (v := .agg #[.slice (some ⟨gx, 0, none⟩) n0 n0]) rfl (by kernel_rfl) (by kernel_rfl) (by kernel_rfl) (fun _ _ _ h => h) (Or.inl ⟨by rfl, ?_⟩) (by assumption) ?_
  · (intro w' hSw; (try dsimp only at hSw); go_simp; try rfl)
  simp only [Act.put, List.setIfInBounds_toArray, List.set_cons_zero, List.set_cons_succ]
  refine wpAnyH_take (i := 1) (oi := { dst := some 38, op := _, type := _, pos := _, after := _, guard := _ }) (v := .slice (some ⟨gy1, 0, none⟩) n1 n1) rfl (by kernel_rfl) (by kernel_rfl) (by kernel_rfl) (fun _ _ _ h => h) (Or.inl ⟨by rfl, ?_⟩) (by assumption) ?_
  · (intro w' hSw; (try dsimp only at hSw); go_simp; try rfl)
  simp only [Act.put, List.setIfInBounds_toArray, List.set_cons_zero, List.set_cons_succ]
  refine wpAnyH_take (i := 2) (oi := { dst := some 39, op := _, type := _, pos := _, after := _, guard := _ }) (v := .agg #[.int .i64 y0, .int .i64 y1, .int .i64 y2]) rfl (by kernel_rfl) (by kernel_rfl) (by kernel_rfl) (fun _ _ _ h => h) (Or.inl ⟨by rfl, ?_⟩) (by assumption) ?_
  · (intro w' hSw; (try dsimp only at hSw); go_simp; try rfl)
  simp only [Act.put, List.setIfInBounds_toArray, List.set_cons_zero, List.set_cons_succ]
  refine wpAnyH_ready (rs := [3]) (by kernel_rfl) (by simp) ?_
  refine AllReadyH.cons (o := { dst := some 40, op := _, type := _, pos := _, after := _, guard := _ }) rfl (fun K hK => ?_) AllReadyH.nil
  go_simp
  refine (tB _).mono ?_
  rintro e wc ⟨rfl, hb3⟩
  go_wp2_with fail
  refine hK.out _ _ ?_ (fun hS1 => ?_)
  · exact ⟨cells_kept hb3 _ _ hS0.1, cells_kept hb3 _ _ hS0.2.1, cells_kept hb3 _ _ hS0.2.2.1, cells_kept hb3 _ _ hS0.2.2.2⟩
  clear hK
  have hb5 := bel_trans hdr hb3
  refine wpAnyH_ready (rs := [4]) (by kernel_rfl) (by simp) ?_
  refine AllReadyH.cons (o := { dst := some 41, op := _, type := _, pos := _, after := _, guard := _ }) rfl (fun K hK => ?_) AllReadyH.nil
  go_simp
  refine (kI _ _ _ _ _ _ _ (hX.below hb5) (hY1.below hb5) (hG.below (bel_trans bw hb5))).mono ?_
  rintro e wj ⟨rfl, hb4⟩
  go_wp2_with fail
  refine hK.out _ _ ?_ (fun hS2 => ?_)
  · exact ⟨cells_kept hb4 _ _ hS1.1, cells_kept hb4 _ _ hS1.2.1, cells_kept hb4 _ _ hS1.2.2.1, cells_kept hb4 _ _ hS1.2.2.2⟩
  clear hK
  refine wpAnyH_take (i := 5) (oi := { dst := some 36, op := _, type := _, pos := _, after := _, guard := _ }) (v := .tuple #[.bool x0, .int .i64 x1]) rfl (by kernel_rfl) (by kernel_rfl) (by kernel_rfl) (fun _ _ _ h => h) (Or.inl ⟨by rfl, ?_⟩) (by assumption) ?_
  · (intro w' hSw; (try dsimp only at hSw); go_simp; try rfl)
  simp only [Act.put, List.setIfInBounds_toArray, List.set_cons_zero, List.set_cons_succ]
  refine wpAnyH_take (i := 6) (oi := { dst := some 42, op := _, type := _, pos := _, after := _, guard := _ }) (v := .bool x0) rfl (by kernel_rfl) (by kernel_rfl) (by kernel_rfl) (fun _ _ _ h => h) (Or.inl ⟨by rfl, ?_⟩) (by assumption) ?_
  · (intro w' hSw; (try dsimp only at hSw); go_simp; try rfl)
  simp only [Act.put, List.setIfInBounds_toArray, List.set_cons_zero, List.set_cons_succ]
  refine wpAnyH_take (i := 7) (oi := { dst := some 43, op := _, type := _, pos := _, after := _, guard := _ }) (v := .int .i64 x1) rfl (by kernel_rfl) (by kernel_rfl) (by kernel_rfl) (fun _ _ _ h => h) (Or.inl ⟨by rfl, ?_⟩) (by assumption) ?_
  · (intro w' hSw; (try dsimp only at hSw); go_simp; try rfl)
  simp only [Act.put, List.setIfInBounds_toArray, List.set_cons_zero, List.set_cons_succ]
  refine wpAnyH_take (i := 8) (oi := { dst := some 12, op := _, type := _, pos := _, after := _, guard := _ }) (v := .bool x0) rfl (by kernel_rfl) (by kernel_rfl) (by kernel_rfl) (fun _ _ _ h => h) (Or.inl ⟨by rfl, ?_⟩) (by assumption) ?_
  · (intro w' hSw; (try dsimp only at hSw); go_simp; try rfl)
  simp only [Act.put, List.setIfInBounds_toArray, List.set_cons_zero, List.set_cons_succ]
  refine wpAnyH_take (i := 9) (oi := { dst := some 13, op := _, type := _, pos := _, after := _, guard := _ }) (v := .int .i64 x1) rfl (by kernel_rfl) (by kernel_rfl) (by kernel_rfl) (fun _ _ _ h => h) (Or.inl ⟨by rfl, ?_⟩) (by assumption) ?_
  · (intro w' hSw; (try dsimp only at hSw); go_simp; try rfl)
  simp only [Act.put, List.setIfInBounds_toArray, List.set_cons_zero, List.set_cons_succ]
  refine wpAnyH_done (by kernel_rfl) ?_ _
  have hb9 : Below wy1.heap.size wy1 wj := bel_trans hb5 hb4
  replace bw := bel_trans bw hb9
  replace p0 := p0.below hb9
  replace pB := pB.below hb9
  replace hX := hX.below hb9
  replace pX := pX.below hb9
  replace hY1 := hY1.below hb9
  clear hb9 hb3 hb4 hb5 hdr hS0 hS1 hS2 kI b9 b0 b1 b2
  have c9 := pX.cell 0
  have c8 := p0.cell 0
  simp only [List.getElem?_cons_zero, List.getElem?_cons_succ] at c9 c8
  go_wp2_with fail
  have hdr : Below wj.heap.size wj wj.drew := by go_grown
  have bd := bel_trans bw hdr
  refine wp_region_held_drew (S := (fun w' => w'.cell? ⟨GX, 0, none⟩ = some (.slice (some ⟨gx, 0, none⟩) n0 n0) ∧ w'.cell? ⟨w.heap.size, 0, none⟩ = some (.slice a0 n0 c0))) (by kernel_rfl) ⟨c9, c8⟩ (fun hS0 => ?_)
  refine wpAnyH_take (i := 0) (oi := { dst := some 52, op := _, type := _, pos := _, after := _, guard := _ }) (v := .agg #[.slice (some ⟨gx, 0, none⟩) n0 n0]) rfl (by kernel_rfl) (by kernel_rfl) (by kernel_rfl) (fun _ _ _ h => h) (Or.inl ⟨by rfl, ?_⟩) (by assumption) ?_
  · (intro w' hSw; (try dsimp only at hSw); go_simp; try rfl)
  simp only [Act.put, List.setIfInBounds_toArray, List.set_cons_zero, List.set_cons_succ]
  refine wpAnyH_take (i := 1) (oi := { dst := some 53, op := _, type := _, pos := _, after := _, guard := _ }) (v := .agg #[.slice a0 n0 c0]) rfl (by kernel_rfl) (by kernel_rfl) (by kernel_rfl) (fun _ _ _ h => h) (Or.inl ⟨by rfl, ?_⟩) (by assumption) ?_
  · (intro w' hSw; (try dsimp only at hSw); go_simp; try rfl)
  simp only [Act.put, List.setIfInBounds_toArray, List.set_cons_zero, List.set_cons_succ]
  refine wpAnyH_ready (rs := [2]) (by kernel_rfl) (by simp) ?_
  refine AllReadyH.cons (o := { dst := some 54, op := _, type := _, pos := _, after := _, guard := _ }) rfl (fun K hK => ?_) AllReadyH.nil
  go_simp
  refine (kT _ (h0.below bd)).mono ?_
  rintro e wk ⟨rfl, hO, hb1⟩
  go_wp2_with fail
  refine hK.out _ _ ?_ (fun hS1 => ?_)
  · exact ⟨cells_kept hb1 _ _ hS0.1, cells_kept hb1 _ _ hS0.2⟩
  clear hK
  have hK9 := hO.codes
  clear hO
  refine wpAnyH_ready (rs := [3]) (by kernel_rfl) (by simp) ?_
  refine AllReadyH.cons (o := { dst := some 55, op := _, type := _, pos := _, after := _, guard := _ }) rfl (fun K hK => ?_) AllReadyH.nil
  go_simp
  refine (eqProgram_same _ _ _ _ _ r0 _ (hX.below (bel_trans hdr hb1)) hK9).mono ?_
  rintro e wl ⟨rfl, hb2⟩
  go_wp2_with fail
  refine hK.out _ _ ?_ (fun hS2 => ?_)
  · exact ⟨cells_kept hb2 _ _ hS1.1, cells_kept hb2 _ _ hS1.2⟩
  clear hK
  refine wpAnyH_take (i := 4) (oi := { dst := some 56, op := _, type := _, pos := _, after := _, guard := _ }) (v := .bool false) rfl (by kernel_rfl) (by kernel_rfl) (by kernel_rfl) (fun _ _ _ h => h) (Or.inl ⟨by rfl, ?_⟩) (by assumption) ?_
  · (intro w' hSw; (try dsimp only at hSw); go_simp; try rfl)
  simp only [Act.put, List.setIfInBounds_toArray, List.set_cons_zero, List.set_cons_succ]
  refine wpAnyH_done (by kernel_rfl) ?_ _
  have hb9 : Below wj.heap.size wj wl := bel_trans hdr (bel_trans hb1 hb2)
  replace bw := bel_trans bw hb9
  replace hY1 := hY1.below hb9
  clear hb9 hb1 hb2 hdr bd hS0 hS1 hS2 c9 c8 hX pX p0 kT hK9 pB tB
  go_wp2_with fail
  refine (kL1 _ (h1.below bw)).mono ?_
  rintro e wm1 ⟨rfl, hO, hb⟩
  have hM := Ints.of_owns hO
  clear hO
  replace bw := bel_trans bw hb
  replace hY1 := hY1.below hb
  clear hb
  go_wp2_with fail
  refine (eqIntS_same _ _ _ _ _ k1 _ hY1 hM).mono ?_
  rintro e wn1 ⟨rfl, d1, hd⟩
  subst hd
  replace bw := bel_trans bw (below_dN d1)
  clear hM hY1
  go_wp2
  go_ret
  exact ⟨rfl, bw⟩
end Go.Proofs.YtmhngodbnoonhaaDoor


/-
  slices.Contains at bugs.
-/
namespace Go.Proofs.YtmhngodbnoonhaaDoor
open Go.RowKit
set_option linter.unusedVariables false
set_option linter.unusedSimpArgs false

def hasW : List I3 → I3 → Bool
  | [], _ => false
  | y :: l, x => decide (y = x) || hasW l x
theorem hasW_iff {x : I3} : ∀ {l : List I3}, hasW l x = true ↔ x ∈ l
  | [] => by simp [hasW]
  | y :: l => by
    have h := hasW_iff (x := x) (l := l)
    show (decide (y = x) || hasW l x) = true ↔ _
    rw [Bool.or_eq_true, h, List.mem_cons, decide_eq_true_iff]
    exact or_congr ⟨Eq.symm, Eq.symm⟩ Iff.rfl
theorem hasW_step {xs : List I3} {k : Nat} (hk : k < xs.length) (y : I3) : hasW (xs.drop k) y = (decide (xs.getD k (0, 0, 0) = y) || hasW (xs.drop (k + 1)) y) := by
  rw [List.drop_eq_getElem_cons hk]
  simp [hasW, List.getD, List.getElem?_eq_getElem hk]
theorem below_dNW {w W : World} (h : Below w.heap.size w W) (d : Nat) : Below w.heap.size w (W.drewN d) := bel_trans h (below_dN d)
/-- An index, or below nought where it is not there. -/
def IdxW (e : Ending) (b : Bool) : Prop := ∃ r : Int, e = .returned (.int .i64 r) ∧ decide (0 ≤ r) = b

set_option maxHeartbeats 2000000 in
set_option maxRecDepth 100000 in
theorem index_is (a : Option Addr) (n cap : Nat) (xs : List I3) (y : I3) (w : World) (h : Instrs w a n cap xs) (hn : n ≤ 1000000) :
    Calls Tryd.prog 106 #[.slice a n cap, y.val] w fun e w' => IdxW e (hasW xs y) ∧ Below w.heap.size w w' := by
  have hl := h.1
  obtain ⟨r, hr⟩ : ∃ r, r = hasW xs y := ⟨_, rfl⟩
  rw [← hr]
  have HR : Hid (r = hasW (xs.drop 0) y) := by rw [Hid]; simpa using hr
  clear hr
  obtain ⟨y0, y1, y2⟩ := y
  unfold I3.val
  simp only
  have bw0 : Below w.heap.size w (w.alloc (.cells #[.int .i64 y0, .int .i64 y1, .int .i64 y2] 40)) := by go_grown
  have c0 : (w.alloc (.cells #[.int .i64 y0, .int .i64 y1, .int .i64 y2] 40)).cell? ⟨w.heap.size, 0, none⟩ = some (.int .i64 y0) := by simp [go_sem]
  have c1 : (w.alloc (.cells #[.int .i64 y0, .int .i64 y1, .int .i64 y2] 40)).cell? ⟨w.heap.size, 1, none⟩ = some (.int .i64 y1) := by simp [go_sem]
  have c2 : (w.alloc (.cells #[.int .i64 y0, .int .i64 y1, .int .i64 y2] 40)).cell? ⟨w.heap.size, 2, none⟩ = some (.int .i64 y2) := by simp [go_sem]
  go_enter Tryd.func106, Tryd.ntmps106
  go_wp2_with fail
  generalize (w.alloc (.cells #[.int .i64 y0, .int .i64 y1, .int .i64 y2] 40)) = W0 at *
  go_loopw [8] (fun si wr => ∃ k : Nat, k ≤ n ∧ si = .int .i64 k ∧ Hid (r = hasW (xs.drop k) (y0, y1, y2)) ∧ Below w.heap.size w wr ∧ wr.cell? ⟨w.heap.size, 0, none⟩ = some (.int .i64 y0) ∧ wr.cell? ⟨w.heap.size, 1, none⟩ = some (.int .i64 y1) ∧ wr.cell? ⟨w.heap.size, 2, none⟩ = some (.int .i64 y2)) (fun si _ => n - (intOf si).toNat)
  case atStart => exact ⟨0, by omega, rfl, HR, bw0, c0, c1, c2⟩
  case round =>
    clear HR bw0 c0 c1 c2
    obtain ⟨k, hk, rfl, HR, bw, c0, c1, c2⟩ := hrel
    by_cases hlt : k < n
    · obtain ⟨_, _, _, _, hcase⟩ := h.below bw
      rcases hcase with e0 | ⟨b, off, rfl, hb, hc⟩
      · omega
      obtain ⟨d0, d1, d2⟩ := hc k hlt
      clear hc hb
      have hst := hasW_step (xs := xs) (k := k) (by omega) (y0, y1, y2)
      generalize xs.getD k (0, 0, 0) = x at d0 d1 d2 hst
      have HS : Hid (hasW (xs.drop k) (y0, y1, y2) = (decide (x = (y0, y1, y2)) || hasW (xs.drop (k + 1)) (y0, y1, y2))) := hst
      clear hst
      have hlt' : (k : Int) < (n : Int) := by omega
      have hk0 : (0 : Int) ≤ (k : Int) := by omega
      obtain ⟨x0, x1, x2⟩ := x
      simp only at d0 d1 d2
      by_cases hE : (x0, x1, x2) = (y0, y1, y2)
      · cases hE
        have HF : Hid (r = true) := by rw [Hid, HR.out, HS.out]; simp
        clear HS HR
        have q0 : (y0 == y0) = true := by simp
        have q1 : (y1 == y1) = true := by simp
        have q2 : (y2 == y2) = true := by simp
        go_wp2_with fail
        go_quiet (fail)
        have bwd := below_dNW bw nq
        generalize wr.drewN nq = U at *
        clear d0 d1 d2 c0 c1 c2 bw q0 q1 q2
        go_wp2
        go_ret
        exact ⟨⟨k, rfl, by rw [HF.out]; simp⟩, bwd⟩
      · have HF : Hid (r = hasW (xs.drop (k + 1)) (y0, y1, y2)) := by rw [Hid, HR.out, HS.out]; simp only [hE, decide_false, Bool.false_or]
        clear HS HR
        have h3 : x0 ≠ y0 ∨ (x0 = y0 ∧ x1 ≠ y1) ∨ (x0 = y0 ∧ x1 = y1 ∧ x2 ≠ y2) := by
          by_cases q0 : x0 = y0
          · by_cases q1 : x1 = y1
            · refine .inr (.inr ⟨q0, q1, fun q2 => hE ?_⟩)
              rw [q0, q1, q2]
            · exact .inr (.inl ⟨q0, q1⟩)
          · exact .inl q0
        clear hE
        go_wp2_with fail
        rcases h3 with t0 | ⟨rfl, t1⟩ | ⟨rfl, rfl, t2⟩
        · have t0' : (y0 == x0) = false := by simp [Ne.symm t0]
          go_quiet (fail)
          have bwd := below_dNW bw nq
          replace c0 : (wr.drewN nq).cell? ⟨w.heap.size, 0, none⟩ = some (.int .i64 y0) := c0
          replace c1 : (wr.drewN nq).cell? ⟨w.heap.size, 1, none⟩ = some (.int .i64 y1) := c1
          replace c2 : (wr.drewN nq).cell? ⟨w.heap.size, 2, none⟩ = some (.int .i64 y2) := c2
          generalize wr.drewN nq = U at *
          clear d0 d1 d2 bw  t0 t0'
          go_wp2
          go_roundw
          case rel => exact ⟨k + 1, by omega, by go_num, HF, bwd, c0, c1, c2⟩
          case measure => simp [intOf]; omega
        · have q0 : (x0 == x0) = true := by simp
          have t1' : (y1 == x1) = false := by simp [Ne.symm t1]
          go_quiet (fail)
          have bwd := below_dNW bw nq
          replace c0 : (wr.drewN nq).cell? ⟨w.heap.size, 0, none⟩ = some (.int .i64 x0) := c0
          replace c1 : (wr.drewN nq).cell? ⟨w.heap.size, 1, none⟩ = some (.int .i64 y1) := c1
          replace c2 : (wr.drewN nq).cell? ⟨w.heap.size, 2, none⟩ = some (.int .i64 y2) := c2
          generalize wr.drewN nq = U at *
          clear d0 d1 d2 bw q0 t1 t1'
          go_wp2
          go_roundw
          case rel => exact ⟨k + 1, by omega, by go_num, HF, bwd, c0, c1, c2⟩
          case measure => simp [intOf]; omega
        · have q0 : (x0 == x0) = true := by simp
          have q1 : (x1 == x1) = true := by simp
          have t2' : (y2 == x2) = false := by simp [Ne.symm t2]
          go_quiet (fail)
          have bwd := below_dNW bw nq
          replace c0 : (wr.drewN nq).cell? ⟨w.heap.size, 0, none⟩ = some (.int .i64 x0) := c0
          replace c1 : (wr.drewN nq).cell? ⟨w.heap.size, 1, none⟩ = some (.int .i64 x1) := c1
          replace c2 : (wr.drewN nq).cell? ⟨w.heap.size, 2, none⟩ = some (.int .i64 y2) := c2
          generalize wr.drewN nq = U at *
          clear d0 d1 d2 bw q0 q1 t2 t2'
          go_wp2
          go_roundw
          case rel => exact ⟨k + 1, by omega, by go_num, HF, bwd, c0, c1, c2⟩
          case measure => simp [intOf]; omega
    · obtain rfl : k = n := by omega
      have HF : Hid (r = false) := by rw [Hid, HR.out, List.drop_of_length_le (by omega)]; rfl
      clear HR c0 c1 c2
      go_wp2
      go_ret
      exact ⟨⟨-1, rfl, by rw [HF.out]; simp⟩, bw⟩

set_option maxHeartbeats 1000000 in
set_option maxRecDepth 100000 in
theorem contains_is (a : Option Addr) (n cap : Nat) (xs : List I3) (y : I3) (w : World) (h : Instrs w a n cap xs) (hn : n ≤ 1000000) :
    Calls Tryd.prog 61 #[.slice a n cap, y.val] w fun e w' => e = .returned (.bool (hasW xs y)) ∧ Below w.heap.size w w' := by
  have kI := fun W hb => index_is a n cap xs y W hb hn
  obtain ⟨r, hr⟩ : ∃ r, r = hasW xs y := ⟨_, rfl⟩
  rw [← hr] at kI ⊢
  clear hr
  obtain ⟨y0, y1, y2⟩ := y
  unfold I3.val at *
  simp only at kI ⊢
  have bw : Below w.heap.size w (w.alloc (.cells #[.int .i64 y0, .int .i64 y1, .int .i64 y2] 40)) := by go_grown
  go_enter Tryd.func61, Tryd.ntmps61
  go_wp2_with fail
  refine (kI _ (h.below bw)).mono ?_
  rintro e w1 ⟨⟨i, rfl, hi⟩, hb⟩
  replace bw := bel_trans bw hb
  replace hi : decide (i ≥ 0) = r := hi
  clear kI hb h
  go_wp2
  go_ret
  exact ⟨rfl, bw⟩
end Go.Proofs.YtmhngodbnoonhaaDoor
