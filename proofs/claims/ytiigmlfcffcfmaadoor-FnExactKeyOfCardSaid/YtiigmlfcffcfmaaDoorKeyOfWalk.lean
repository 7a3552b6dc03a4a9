
/-
  FnExactKeyOf, given what both answer: the law's walk.
-/
import Derived.Test.YtiigmlfcffcfmaaDoorVm1
import Derived.Test.YtiigmlfcffcfmaaDoorVm2
import Derived.Test.YtiigmlfcffcfmaaDoorSizeB
import Derived.Test.YtiigmlfcffcfmaaDoorVmI
import Derived.Deep.RegionHeld3
namespace Go.Proofs.YtiigmlfcffcfmaaDoor
open Go.RowKit

theorem fnExactKeyOf_box1 (w : World) (v : Value) (t : TypeId) (B : Nat) (hB : B ≤ w.heap.size) : (w.alloc (.cells #[v] t)).ownsRow B t 1 (.slice (some ⟨w.heap.size, 0, none⟩) 1 1) 1 [v] := World.ownsRow_lit w #[v] 1 hB (by unfold maxLen; omega) rfl

set_option maxHeartbeats 8000000 in
set_option maxRecDepth 100000 in
theorem fnExactKeyOf_of (s0 : S4) (m0 : V4) (x0 : ByteArray) (x1 : Int) (w : World) (h0 : Vmem w s0 m0) (hG0 : VmShape w)
    (kS : ∀ (s0 : S4) (w : World), Vmem w s0 m0 → Calls Tryd.prog 23 #[s0.val] w fun e w' => e = .returned (.tuple #[.string x0, .int .i64 x1]) ∧ Below w.heap.size w w')
    (kI : ∀ (s0 : S4) (w : World), Vmem w s0 m0 → VmShape w → Calls Tryd.prog 22 #[s0.val] w fun e w' => e = .returned (.tuple #[.string x0, .int .i64 x1]) ∧ Below w.heap.size w w') :
    Calls Tryd.prog 10 #[s0.val] w fun e w' => e = .returned (.bool true) ∧ Below w.heap.size w w' := by
  have f0 := h0.fits
  have kZ0 := fun left w h => szVm_any s0 m0 left w h
  have kT0 := fun w h => toVm_own s0 m0 w h
  obtain ⟨⟨a0_0, n0_0, c0_0⟩, ⟨a0_1, n0_1, c0_1⟩, ⟨a0_2, n0_2, c0_2⟩, ⟨a0_3, n0_3, c0_3⟩⟩ := s0
  have u0 : S4.val ((a0_0, n0_0, c0_0), (a0_1, n0_1, c0_1), (a0_2, n0_2, c0_2), (a0_3, n0_3, c0_3)) = .agg #[.slice a0_0 n0_0 c0_0, .slice a0_1 n0_1 c0_1, .slice a0_2 n0_2 c0_2, .slice a0_3 n0_3 c0_3] := rfl
  rw [u0] at kZ0 kT0
  rw [u0]
  clear u0
  have bw : Below w.heap.size w (w.alloc (.cells #[.slice a0_0 n0_0 c0_0, .slice a0_1 n0_1 c0_1, .slice a0_2 n0_2 c0_2, .slice a0_3 n0_3 c0_3] 50)) := by go_grown
  have p0 : (w.alloc (.cells #[.slice a0_0 n0_0 c0_0, .slice a0_1 n0_1 c0_1, .slice a0_2 n0_2 c0_2, .slice a0_3 n0_3 c0_3] 50)).ownsRow w.heap.size 50 4 (.slice (some ⟨w.heap.size, 0, none⟩) 1 1) 1 [.slice a0_0 n0_0 c0_0, .slice a0_1 n0_1 c0_1, .slice a0_2 n0_2 c0_2, .slice a0_3 n0_3 c0_3] := by
    have h9 := box4 w (.slice a0_0 n0_0 c0_0) (.slice a0_1 n0_1 c0_1) (.slice a0_2 n0_2 c0_2) (.slice a0_3 n0_3 c0_3) 50 w.heap.size (Nat.le_refl _)
    skip
    exact h9
  go_enter Tryd.func10, Tryd.ntmps10
  go_wp2_with fail
  generalize (w.alloc (.cells #[.slice a0_0 n0_0 c0_0, .slice a0_1 n0_1 c0_1, .slice a0_2 n0_2 c0_2, .slice a0_3 n0_3 c0_3] 50)) = W0 at *
  refine (kZ0 1048576 _ (h0.below bw) (by omega) (by omega)).mono ?_
  rintro e wz0 ⟨⟨z0, rfl, hz⟩, hb⟩
  replace bw := bel_trans bw hb
  replace p0 := owns_below p0 hb
  clear hb kZ0
  rcases hz with rfl | ⟨y0, x0', l0, l1, l2, l3⟩
  · go_wp2
    go_ret
    exact ⟨rfl, bw⟩
  simp only at l0 l1 l2 l3
  replace kT0 := fun w h => kT0 w h (by omega) (by omega) (by omega) (by omega)
  clear l0 l1 l2 l3
  have hn0 : decide (z0 < 0) = false := by simp; omega
  clear y0 x0'
  have g0_0 : wz0.cell? ⟨w.heap.size, 0, none⟩ = some (.slice a0_0 n0_0 c0_0) := by simpa using p0.cellAt 0 (by simp)
  have g0_1 : wz0.cell? ⟨w.heap.size, 1, none⟩ = some (.slice a0_1 n0_1 c0_1) := by simpa using p0.cellAt 1 (by simp)
  have g0_2 : wz0.cell? ⟨w.heap.size, 2, none⟩ = some (.slice a0_2 n0_2 c0_2) := by simpa using p0.cellAt 2 (by simp)
  have g0_3 : wz0.cell? ⟨w.heap.size, 3, none⟩ = some (.slice a0_3 n0_3 c0_3) := by simpa using p0.cellAt 3 (by simp)
  go_wp2_with fail
  refine (kT0 _ (h0.below bw)).mono ?_
  rintro e wq0 ⟨⟨t0, rfl, hO0⟩, hq0⟩
  have hM0 := hO0.mem f0
  replace bw := bel_trans bw hq0
  replace p0 := owns_below p0 hq0
  clear hq0 hO0 g0_0 g0_1 g0_2 g0_3
  obtain ⟨⟨q0a, q0n, q0c⟩, ⟨q1a, q1n, q1c⟩, ⟨q2a, q2n, q2c⟩, ⟨q3a, q3n, q3c⟩⟩ := t0
  have uT : S4.val ((q0a, q0n, q0c), (q1a, q1n, q1c), (q2a, q2n, q2c), (q3a, q3n, q3c)) = .agg #[.slice q0a q0n q0c, .slice q1a q1n q1c, .slice q2a q2n q2c, .slice q3a q3n q3c] := rfl
  rw [uT]
  clear uT
  go_wp2_with fail
  refine (kS ((q0a, q0n, q0c), (q1a, q1n, q1c), (q2a, q2n, q2c), (q3a, q3n, q3c)) _ hM0).mono ?_
  rintro e wr ⟨rfl, hr⟩
  replace bw := bel_trans bw hr
  replace p0 := owns_below p0 hr
  clear hr hM0 kS
  have cc0 : wr.cell? ⟨w.heap.size, 0, none⟩ = some (.slice a0_0 n0_0 c0_0) := by simpa using p0.cellAt 0 (by simp)
  have cc1 : wr.cell? ⟨w.heap.size, 1, none⟩ = some (.slice a0_1 n0_1 c0_1) := by simpa using p0.cellAt 1 (by simp)
  have cc2 : wr.cell? ⟨w.heap.size, 2, none⟩ = some (.slice a0_2 n0_2 c0_2) := by simpa using p0.cellAt 2 (by simp)
  have cc3 : wr.cell? ⟨w.heap.size, 3, none⟩ = some (.slice a0_3 n0_3 c0_3) := by simpa using p0.cellAt 3 (by simp)
  go_wp2_with fail
  refine (kT0 _ (h0.below bw)).mono ?_
  rintro e wx0 ⟨⟨⟨⟨e0_0, u0_0, v0_0⟩, ⟨e0_1, u0_1, v0_1⟩, ⟨e0_2, u0_2, v0_2⟩, ⟨e0_3, u0_3, v0_3⟩⟩, rfl, hO⟩, hb⟩
  have hX0 := hO.mem f0
  have uX : S4.val ((e0_0, u0_0, v0_0), (e0_1, u0_1, v0_1), (e0_2, u0_2, v0_2), (e0_3, u0_3, v0_3)) = .agg #[.slice e0_0 u0_0 v0_0, .slice e0_1 u0_1 v0_1, .slice e0_2 u0_2 v0_2, .slice e0_3 u0_3 v0_3] := rfl
  rw [uX]
  clear uX hO
  replace bw := bel_trans bw hb
  replace p0 := owns_below p0 hb
  clear hb cc0 cc1 cc2 cc3
  have hbx : Below wx0.heap.size wx0 (wx0.alloc (.cells #[.slice e0_0 u0_0 v0_0, .slice e0_1 u0_1 v0_1, .slice e0_2 u0_2 v0_2, .slice e0_3 u0_3 v0_3] 29)) := by go_grown
  have pX0 := box4 wx0 (.slice e0_0 u0_0 v0_0) (.slice e0_1 u0_1 v0_1) (.slice e0_2 u0_2 v0_2) (.slice e0_3 u0_3 v0_3) 29 wx0.heap.size (Nat.le_refl _)
  replace hX0 := hX0.below hbx
  replace bw := bel_trans bw hbx
  replace p0 := owns_below p0 hbx
  clear hbx
  have cx0_0 : (wx0.alloc (.cells #[.slice e0_0 u0_0 v0_0, .slice e0_1 u0_1 v0_1, .slice e0_2 u0_2 v0_2, .slice e0_3 u0_3 v0_3] 29)).cell? ⟨wx0.heap.size, 0, none⟩ = some (.slice e0_0 u0_0 v0_0) := by simp
  have cx0_1 : (wx0.alloc (.cells #[.slice e0_0 u0_0 v0_0, .slice e0_1 u0_1 v0_1, .slice e0_2 u0_2 v0_2, .slice e0_3 u0_3 v0_3] 29)).cell? ⟨wx0.heap.size, 1, none⟩ = some (.slice e0_1 u0_1 v0_1) := by simp
  have cx0_2 : (wx0.alloc (.cells #[.slice e0_0 u0_0 v0_0, .slice e0_1 u0_1 v0_1, .slice e0_2 u0_2 v0_2, .slice e0_3 u0_3 v0_3] 29)).cell? ⟨wx0.heap.size, 2, none⟩ = some (.slice e0_2 u0_2 v0_2) := by simp
  have cx0_3 : (wx0.alloc (.cells #[.slice e0_0 u0_0 v0_0, .slice e0_1 u0_1 v0_1, .slice e0_2 u0_2 v0_2, .slice e0_3 u0_3 v0_3] 29)).cell? ⟨wx0.heap.size, 3, none⟩ = some (.slice e0_3 u0_3 v0_3) := by simp
  go_wp2_with fail
  generalize (wx0.alloc (.cells #[.slice e0_0 u0_0 v0_0, .slice e0_1 u0_1 v0_1, .slice e0_2 u0_2 v0_2, .slice e0_3 u0_3 v0_3] 29)) = wi at *
  generalize wx0.heap.size = GX0 at *
  have hne1 : (x1 != x1) = false := by simp
  refine (kI ((e0_0, u0_0, v0_0), (e0_1, u0_1, v0_1), (e0_2, u0_2, v0_2), (e0_3, u0_3, v0_3)) _ hX0 (hG0.below bw)).mono ?_
  rintro e wj ⟨rfl, hb⟩
  replace bw := bel_trans bw hb
  replace hX0 := hX0.below hb
  replace p0 := owns_below p0 hb
  replace pX0 := owns_below pX0 hb
  clear hb kI cx0_0 cx0_1 cx0_2 cx0_3
  have cV0 : wj.cell? ⟨GX0, 0, none⟩ = some (.slice e0_0 u0_0 v0_0) := by simpa using pX0.cellAt 0 (by simp)
  have cV1 : wj.cell? ⟨GX0, 1, none⟩ = some (.slice e0_1 u0_1 v0_1) := by simpa using pX0.cellAt 1 (by simp)
  have cV2 : wj.cell? ⟨GX0, 2, none⟩ = some (.slice e0_2 u0_2 v0_2) := by simpa using pX0.cellAt 2 (by simp)
  have cV3 : wj.cell? ⟨GX0, 3, none⟩ = some (.slice e0_3 u0_3 v0_3) := by simpa using pX0.cellAt 3 (by simp)
  have cC0 : wj.cell? ⟨w.heap.size, 0, none⟩ = some (.slice a0_0 n0_0 c0_0) := by simpa using p0.cellAt 0 (by simp)
  have cC1 : wj.cell? ⟨w.heap.size, 1, none⟩ = some (.slice a0_1 n0_1 c0_1) := by simpa using p0.cellAt 1 (by simp)
  have cC2 : wj.cell? ⟨w.heap.size, 2, none⟩ = some (.slice a0_2 n0_2 c0_2) := by simpa using p0.cellAt 2 (by simp)
  have cC3 : wj.cell? ⟨w.heap.size, 3, none⟩ = some (.slice a0_3 n0_3 c0_3) := by simpa using p0.cellAt 3 (by simp)
  go_wp2_with fail
  have hP : Vmem wj.drew ((a0_0, n0_0, c0_0), (a0_1, n0_1, c0_1), (a0_2, n0_2, c0_2), (a0_3, n0_3, c0_3)) m0 := h0.below (bel_trans bw (by go_grown))
  have hV : Vmem wj.drew ((e0_0, u0_0, v0_0), (e0_1, u0_1, v0_1), (e0_2, u0_2, v0_2), (e0_3, u0_3, v0_3)) m0 := hX0.below (by go_grown)
  have c8 : (fun w' : World => w'.cell? ⟨GX0, 0, none⟩ = some (.slice e0_0 u0_0 v0_0) ∧ w'.cell? ⟨GX0, 1, none⟩ = some (.slice e0_1 u0_1 v0_1) ∧ w'.cell? ⟨GX0, 2, none⟩ = some (.slice e0_2 u0_2 v0_2) ∧ w'.cell? ⟨GX0, 3, none⟩ = some (.slice e0_3 u0_3 v0_3) ∧ w'.cell? ⟨w.heap.size, 0, none⟩ = some (.slice a0_0 n0_0 c0_0) ∧ w'.cell? ⟨w.heap.size, 1, none⟩ = some (.slice a0_1 n0_1 c0_1) ∧ w'.cell? ⟨w.heap.size, 2, none⟩ = some (.slice a0_2 n0_2 c0_2) ∧ w'.cell? ⟨w.heap.size, 3, none⟩ = some (.slice a0_3 n0_3 c0_3)) wj := ⟨cV0, cV1, cV2, cV3, cC0, cC1, cC2, cC3⟩
  clear cV0 cV1 cV2 cV3 cC0 cC1 cC2 cC3
  go_region_held3 (fun w' => w'.cell? ⟨GX0, 0, none⟩ = some (.slice e0_0 u0_0 v0_0) ∧ w'.cell? ⟨GX0, 1, none⟩ = some (.slice e0_1 u0_1 v0_1) ∧ w'.cell? ⟨GX0, 2, none⟩ = some (.slice e0_2 u0_2 v0_2) ∧ w'.cell? ⟨GX0, 3, none⟩ = some (.slice e0_3 u0_3 v0_3) ∧ w'.cell? ⟨w.heap.size, 0, none⟩ = some (.slice a0_0 n0_0 c0_0) ∧ w'.cell? ⟨w.heap.size, 1, none⟩ = some (.slice a0_1 n0_1 c0_1) ∧ w'.cell? ⟨w.heap.size, 2, none⟩ = some (.slice a0_2 n0_2 c0_2) ∧ w'.cell? ⟨w.heap.size, 3, none⟩ = some (.slice a0_3 n0_3 c0_3)) (first | (exact c8) | (exact c9) | (exact ⟨cells_kept hl0 _ _ c9.1, cells_kept hl0 _ _ c9.2.1, cells_kept hl0 _ _ c9.2.2.1, cells_kept hl0 _ _ c9.2.2.2.1, cells_kept hl0 _ _ c9.2.2.2.2.1, cells_kept hl0 _ _ c9.2.2.2.2.2.1, cells_kept hl0 _ _ c9.2.2.2.2.2.2.1, cells_kept hl0 _ _ c9.2.2.2.2.2.2.2⟩))
    (first | (go_at_call 32; refine (kT0 _ hP).mono ?_; rintro e wk0 ⟨⟨sk0, rfl, hOk⟩, hk0⟩; have hD := hV.below hk0; have c9 := (show (fun w' : World => w'.cell? ⟨GX0, 0, none⟩ = some (.slice e0_0 u0_0 v0_0) ∧ w'.cell? ⟨GX0, 1, none⟩ = some (.slice e0_1 u0_1 v0_1) ∧ w'.cell? ⟨GX0, 2, none⟩ = some (.slice e0_2 u0_2 v0_2) ∧ w'.cell? ⟨GX0, 3, none⟩ = some (.slice e0_3 u0_3 v0_3) ∧ w'.cell? ⟨w.heap.size, 0, none⟩ = some (.slice a0_0 n0_0 c0_0) ∧ w'.cell? ⟨w.heap.size, 1, none⟩ = some (.slice a0_1 n0_1 c0_1) ∧ w'.cell? ⟨w.heap.size, 2, none⟩ = some (.slice a0_2 n0_2 c0_2) ∧ w'.cell? ⟨w.heap.size, 3, none⟩ = some (.slice a0_3 n0_3 c0_3)) wk0 from ⟨cells_kept hk0 _ _ c8.1, cells_kept hk0 _ _ c8.2.1, cells_kept hk0 _ _ c8.2.2.1, cells_kept hk0 _ _ c8.2.2.2.1, cells_kept hk0 _ _ c8.2.2.2.2.1, cells_kept hk0 _ _ c8.2.2.2.2.2.1, cells_kept hk0 _ _ c8.2.2.2.2.2.2.1, cells_kept hk0 _ _ c8.2.2.2.2.2.2.2⟩)) | (go_at_call 34; refine (eqVm_same ((e0_0, u0_0, v0_0), (e0_1, u0_1, v0_1), (e0_2, u0_2, v0_2), (e0_3, u0_3, v0_3)) sk0 _ _ hD (hOk.mem f0)).mono ?_; rintro e wl0 ⟨rfl, hl0⟩))
  have hbw : Below wj.heap.size wj wl0 := bel_trans (by go_grown) (bel_trans hk0 hl0)
  replace bw := bel_trans bw hbw
  clear hbw hk0 hl0 hD hOk c8 c9 hP hV hX0 pX0 p0
  go_wp2
  go_ret
  exact ⟨rfl, bw⟩
end Go.Proofs.YtiigmlfcffcfmaaDoor
