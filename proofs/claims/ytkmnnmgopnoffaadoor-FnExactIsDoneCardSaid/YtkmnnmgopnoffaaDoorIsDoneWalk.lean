
/-
  FnExactIsDone, given what both answer: the law's walk.
-/
import Derived.Test.YtkmnnmgopnoffaaDoorVm1
import Derived.Test.YtkmnnmgopnoffaaDoorVm2
import Derived.Test.YtkmnnmgopnoffaaDoorSizeB
import Derived.Test.YtkmnnmgopnoffaaDoorVmI
import Derived.Deep.RegionHeld3
namespace Go.Proofs.YtkmnnmgopnoffaaDoor
open Go.RowKit

theorem fnExactIsDone_box1 (w : World) (v : Value) (t : TypeId) (B : Nat) (hB : B ≤ w.heap.size) : (w.alloc (.cells #[v] t)).ownsRow B t 1 (.slice (some ⟨w.heap.size, 0, none⟩) 1 1) 1 [v] := World.ownsRow_lit w #[v] 1 hB (by unfold maxLen; omega) rfl

set_option maxHeartbeats 8000000 in
set_option maxRecDepth 100000 in
theorem fnExactIsDone_of (a0 : Option Addr) (n0 c0 : Nat) (r0 : List (List I3)) (s1 : S4) (m1 : V4) (i2 : Int) (x0 : Bool) (x1 : Int) (w : World) (h0 : Codes w a0 n0 c0 r0) (h1 : Vmem w s1 m1) (hG0 : VmShape w)
    (kS : ∀ (a0 : Option Addr) (n0 c0 : Nat) (s1 : S4) (w : World), Codes w a0 n0 c0 r0 → Vmem w s1 m1 → Calls Tryd.prog 41 #[.agg #[.slice a0 n0 c0], s1.val, .int .i64 i2] w fun e w' => e = .returned (.tuple #[.bool x0, .int .i64 x1]) ∧ Below w.heap.size w w')
    (kI : ∀ (a0 : Option Addr) (n0 c0 : Nat) (s1 : S4) (w : World), Codes w a0 n0 c0 r0 → Vmem w s1 m1 → VmShape w → Calls Tryd.prog 18 #[.agg #[.slice a0 n0 c0], s1.val, .int .i64 i2] w fun e w' => e = .returned (.tuple #[.bool x0, .int .i64 x1]) ∧ Below w.heap.size w w') :
    Calls Tryd.prog 7 #[.agg #[.slice a0 n0 c0], s1.val, .int .i64 i2] w fun e w' => e = .returned (.bool true) ∧ Below w.heap.size w w' := by
  have kT0 := fun w h => toProgram_copy a0 n0 c0 r0 w h
  have f1 := h1.fits
  have kZ1 := fun left w h => szVm_any s1 m1 left w h
  have kT1 := fun w h => toVm_own s1 m1 w h
  obtain ⟨⟨a1_0, n1_0, c1_0⟩, ⟨a1_1, n1_1, c1_1⟩, ⟨a1_2, n1_2, c1_2⟩, ⟨a1_3, n1_3, c1_3⟩⟩ := s1
  have u1 : S4.val ((a1_0, n1_0, c1_0), (a1_1, n1_1, c1_1), (a1_2, n1_2, c1_2), (a1_3, n1_3, c1_3)) = .agg #[.slice a1_0 n1_0 c1_0, .slice a1_1 n1_1 c1_1, .slice a1_2 n1_2 c1_2, .slice a1_3 n1_3 c1_3] := rfl
  rw [u1] at kZ1 kT1
  rw [u1]
  clear u1
  have bw : Below w.heap.size w ((w.alloc (.cells #[.slice a0 n0 c0] 65)).alloc (.cells #[.slice a1_0 n1_0 c1_0, .slice a1_1 n1_1 c1_1, .slice a1_2 n1_2 c1_2, .slice a1_3 n1_3 c1_3] 66)) := by go_grown
  have p0 : ((w.alloc (.cells #[.slice a0 n0 c0] 65)).alloc (.cells #[.slice a1_0 n1_0 c1_0, .slice a1_1 n1_1 c1_1, .slice a1_2 n1_2 c1_2, .slice a1_3 n1_3 c1_3] 66)).ownsRow w.heap.size 65 1 (.slice (some ⟨w.heap.size, 0, none⟩) 1 1) 1 [.slice a0 n0 c0] := by
    have h9 := (fnExactIsDone_box1 w (.slice a0 n0 c0) 65 w.heap.size (Nat.le_refl _)).alloc (.cells #[.slice a1_0 n1_0 c1_0, .slice a1_1 n1_1 c1_1, .slice a1_2 n1_2 c1_2, .slice a1_3 n1_3 c1_3] 66)
    skip
    exact h9
  have p1 : ((w.alloc (.cells #[.slice a0 n0 c0] 65)).alloc (.cells #[.slice a1_0 n1_0 c1_0, .slice a1_1 n1_1 c1_1, .slice a1_2 n1_2 c1_2, .slice a1_3 n1_3 c1_3] 66)).ownsRow w.heap.size 66 4 (.slice (some ⟨w.heap.size + 1, 0, none⟩) 1 1) 1 [.slice a1_0 n1_0 c1_0, .slice a1_1 n1_1 c1_1, .slice a1_2 n1_2 c1_2, .slice a1_3 n1_3 c1_3] := by
    have h9 := box4 (w.alloc (.cells #[.slice a0 n0 c0] 65)) (.slice a1_0 n1_0 c1_0) (.slice a1_1 n1_1 c1_1) (.slice a1_2 n1_2 c1_2) (.slice a1_3 n1_3 c1_3) 66 w.heap.size (by simp)
    simp only [World.size_alloc] at h9
    exact h9
  go_enter Tryd.func7, Tryd.ntmps7
  go_wp2_with fail
  generalize ((w.alloc (.cells #[.slice a0 n0 c0] 65)).alloc (.cells #[.slice a1_0 n1_0 c1_0, .slice a1_1 n1_1 c1_1, .slice a1_2 n1_2 c1_2, .slice a1_3 n1_3 c1_3] 66)) = W0 at *
  have hz := sizeLeft_or r0 1048576 (by omega)
  have hbd := size_bounds (rows := r0) (left := 1048576) (by omega)
  refine (szProgram_less a0 n0 c0 r0 1048576 _ (h0.below bw) (by omega) (by omega)).mono ?_
  rintro e wz0 ⟨rfl, hb⟩
  generalize sizeLeft 1048576 r0 = z0 at hz hbd
  replace bw := bel_trans bw hb
  replace p0 := owns_below p0 hb
  replace p1 := owns_below p1 hb
  clear hb 
  rcases hz with rfl | ⟨y0, x0'⟩
  · clear hbd
    go_wp2
    go_ret
    exact ⟨rfl, bw⟩
  obtain ⟨hr, hr'⟩ := hbd y0 (by omega)
  have hlen : n0 ≤ 1048576 := by rw [← h0.1]; exact hr
  replace kT0 := fun w h => kT0 w h hlen (fun t _ => hr' t)
  clear hbd hr hr' hlen
  have hn0 : decide (z0 < 0) = false := by simp; omega
  have cc0 : wz0.cell? ⟨w.heap.size + 1, 0, none⟩ = some (.slice a1_0 n1_0 c1_0) := by simpa using p1.cellAt 0 (by simp)
  have cc1 : wz0.cell? ⟨w.heap.size + 1, 1, none⟩ = some (.slice a1_1 n1_1 c1_1) := by simpa using p1.cellAt 1 (by simp)
  have cc2 : wz0.cell? ⟨w.heap.size + 1, 2, none⟩ = some (.slice a1_2 n1_2 c1_2) := by simpa using p1.cellAt 2 (by simp)
  have cc3 : wz0.cell? ⟨w.heap.size + 1, 3, none⟩ = some (.slice a1_3 n1_3 c1_3) := by simpa using p1.cellAt 3 (by simp)
  go_wp2_with fail
  refine (kZ1 z0 _ (h1.below bw) (by omega) (by omega)).mono ?_
  rintro e wz1 ⟨⟨z1, rfl, hz⟩, hb⟩
  replace bw := bel_trans bw hb
  replace p0 := owns_below p0 hb
  replace p1 := owns_below p1 hb
  clear hb kZ1 cc0 cc1 cc2 cc3
  rcases hz with rfl | ⟨y1, x1', l0, l1, l2, l3⟩
  · go_wp2
    go_ret
    exact ⟨rfl, bw⟩
  simp only at l0 l1 l2 l3
  replace kT1 := fun w h => kT1 w h (by omega) (by omega) (by omega) (by omega)
  clear l0 l1 l2 l3
  have hn1 : decide (z1 < 0) = false := by simp; omega
  clear y0 x0' y1 x1'
  have g0_0 : wz1.cell? ⟨w.heap.size, 0, none⟩ = some (.slice a0 n0 c0) := by simpa using p0.cellAt 0 (by simp)
  have g1_0 : wz1.cell? ⟨w.heap.size + 1, 0, none⟩ = some (.slice a1_0 n1_0 c1_0) := by simpa using p1.cellAt 0 (by simp)
  have g1_1 : wz1.cell? ⟨w.heap.size + 1, 1, none⟩ = some (.slice a1_1 n1_1 c1_1) := by simpa using p1.cellAt 1 (by simp)
  have g1_2 : wz1.cell? ⟨w.heap.size + 1, 2, none⟩ = some (.slice a1_2 n1_2 c1_2) := by simpa using p1.cellAt 2 (by simp)
  have g1_3 : wz1.cell? ⟨w.heap.size + 1, 3, none⟩ = some (.slice a1_3 n1_3 c1_3) := by simpa using p1.cellAt 3 (by simp)
  go_wp2_with fail
  have bd : Below w.heap.size w wz1.drew := bel_trans bw (by go_grown)
  refine wp_region_held_drew (S := (fun w' => w'.cell? ⟨w.heap.size, 0, none⟩ = some (.slice a0 n0 c0) ∧ w'.cell? ⟨w.heap.size + 1, 0, none⟩ = some (.slice a1_0 n1_0 c1_0) ∧ w'.cell? ⟨w.heap.size + 1, 1, none⟩ = some (.slice a1_1 n1_1 c1_1) ∧ w'.cell? ⟨w.heap.size + 1, 2, none⟩ = some (.slice a1_2 n1_2 c1_2) ∧ w'.cell? ⟨w.heap.size + 1, 3, none⟩ = some (.slice a1_3 n1_3 c1_3))) (by kernel_rfl) ⟨g0_0, g1_0, g1_1, g1_2, g1_3⟩ (fun hS0 => ?_)
  refine wpAnyH_take (i := 0) (oi := { dst := some 25, op := _, type := _, pos := _, after := _, guard := _ }) (v := .agg #[.slice a0 n0 c0]) rfl (by kernel_rfl) (by kernel_rfl) (by kernel_rfl) (fun _ _ _ h => h) (Or.inl ⟨by rfl, ?_⟩) (by assumption) ?_
  · (intro w' hSw; (try dsimp only at hSw); go_simp; try rfl)
  simp only [Act.put, List.setIfInBounds_toArray, List.set_cons_zero, List.set_cons_succ]
  refine wpAnyH_take (i := 2) (oi := { dst := some 27, op := _, type := _, pos := _, after := _, guard := _ }) (v := .agg #[.slice a1_0 n1_0 c1_0, .slice a1_1 n1_1 c1_1, .slice a1_2 n1_2 c1_2, .slice a1_3 n1_3 c1_3]) rfl (by kernel_rfl) (by kernel_rfl) (by kernel_rfl) (fun _ _ _ h => h) (Or.inl ⟨by rfl, ?_⟩) (by assumption) ?_
  · (intro w' hSw; (try dsimp only at hSw); go_simp; try rfl)
  simp only [Act.put, List.setIfInBounds_toArray, List.set_cons_zero, List.set_cons_succ]
  refine wpAnyH_take (i := 4) (oi := { dst := some 29, op := _, type := _, pos := _, after := _, guard := _ }) (v := .int .i64 i2) rfl (by kernel_rfl) (by kernel_rfl) (by kernel_rfl) (fun _ _ _ h => h) (Or.inl ⟨by rfl, ?_⟩) (by assumption) ?_
  · (intro w' hSw; (try dsimp only at hSw); go_simp; try rfl)
  simp only [Act.put, List.setIfInBounds_toArray, List.set_cons_zero, List.set_cons_succ]
  refine wpAnyH_ready (rs := [1]) (by kernel_rfl) (by simp) ?_
  refine AllReadyH.cons (o := { dst := some 26, op := _, type := _, pos := _, after := _, guard := _ }) rfl (fun K hK => ?_) AllReadyH.nil
  go_simp
  refine (kT0 _ (h0.below bd)).mono ?_
  rintro e wq0 ⟨rfl, hO0, hq0⟩
  go_wp2_with fail
  refine hK.out _ _ ?_ (fun hS1 => ?_)
  · exact ⟨cells_kept hq0 _ _ hS0.1, cells_kept hq0 _ _ hS0.2.1, cells_kept hq0 _ _ hS0.2.2.1, cells_kept hq0 _ _ hS0.2.2.2.1, cells_kept hq0 _ _ hS0.2.2.2.2⟩
  clear hK
  refine wpAnyH_ready (rs := [3]) (by kernel_rfl) (by simp) ?_
  refine AllReadyH.cons (o := { dst := some 28, op := _, type := _, pos := _, after := _, guard := _ }) rfl (fun K hK => ?_) AllReadyH.nil
  go_simp
  refine (kT1 _ (h1.below (bel_trans bd hq0))).mono ?_
  rintro e wq1 ⟨⟨t1, rfl, hO1⟩, hq1⟩
  go_wp2_with fail
  refine hK.out _ _ ?_ (fun hS2 => ?_)
  · exact ⟨cells_kept hq1 _ _ hS1.1, cells_kept hq1 _ _ hS1.2.1, cells_kept hq1 _ _ hS1.2.2.1, cells_kept hq1 _ _ hS1.2.2.2.1, cells_kept hq1 _ _ hS1.2.2.2.2⟩
  clear hK
  refine wpAnyH_ready (rs := [5]) (by kernel_rfl) (by simp) ?_
  refine AllReadyH.cons (o := { dst := some 30, op := _, type := _, pos := _, after := _, guard := _ }) rfl (fun K hK => ?_) AllReadyH.nil
  go_simp
  refine (kS _ _ _ t1 _ (hO0.codes.below hq1) (hO1.mem f1)).mono ?_
  rintro e wr ⟨rfl, hr⟩
  go_wp2_with fail
  refine hK.out _ _ ?_ (fun hSr => ?_)
  · exact ⟨cells_kept hr _ _ hS2.1, cells_kept hr _ _ hS2.2.1, cells_kept hr _ _ hS2.2.2.1, cells_kept hr _ _ hS2.2.2.2.1, cells_kept hr _ _ hS2.2.2.2.2⟩
  clear hK
  refine wpAnyH_take (i := 6) (oi := { dst := some 24, op := _, type := _, pos := _, after := _, guard := _ }) (v := .tuple #[.bool x0, .int .i64 x1]) rfl (by kernel_rfl) (by kernel_rfl) (by kernel_rfl) (fun _ _ _ h => h) (Or.inl ⟨by rfl, ?_⟩) (by assumption) ?_
  · (intro w' hSw; (try dsimp only at hSw); go_simp; try rfl)
  simp only [Act.put, List.setIfInBounds_toArray, List.set_cons_zero, List.set_cons_succ]
  refine wpAnyH_take (i := 7) (oi := { dst := some 31, op := _, type := _, pos := _, after := _, guard := _ }) (v := .bool x0) rfl (by kernel_rfl) (by kernel_rfl) (by kernel_rfl) (fun _ _ _ h => h) (Or.inl ⟨by rfl, ?_⟩) (by assumption) ?_
  · (intro w' hSw; (try dsimp only at hSw); go_simp; try rfl)
  simp only [Act.put, List.setIfInBounds_toArray, List.set_cons_zero, List.set_cons_succ]
  refine wpAnyH_take (i := 8) (oi := { dst := some 32, op := _, type := _, pos := _, after := _, guard := _ }) (v := .int .i64 x1) rfl (by kernel_rfl) (by kernel_rfl) (by kernel_rfl) (fun _ _ _ h => h) (Or.inl ⟨by rfl, ?_⟩) (by assumption) ?_
  · (intro w' hSw; (try dsimp only at hSw); go_simp; try rfl)
  simp only [Act.put, List.setIfInBounds_toArray, List.set_cons_zero, List.set_cons_succ]
  refine wpAnyH_take (i := 9) (oi := { dst := some 8, op := _, type := _, pos := _, after := _, guard := _ }) (v := .bool x0) rfl (by kernel_rfl) (by kernel_rfl) (by kernel_rfl) (fun _ _ _ h => h) (Or.inl ⟨by rfl, ?_⟩) (by assumption) ?_
  · (intro w' hSw; (try dsimp only at hSw); go_simp; try rfl)
  simp only [Act.put, List.setIfInBounds_toArray, List.set_cons_zero, List.set_cons_succ]
  refine wpAnyH_take (i := 10) (oi := { dst := some 9, op := _, type := _, pos := _, after := _, guard := _ }) (v := .int .i64 x1) rfl (by kernel_rfl) (by kernel_rfl) (by kernel_rfl) (fun _ _ _ h => h) (Or.inl ⟨by rfl, ?_⟩) (by assumption) ?_
  · (intro w' hSw; (try dsimp only at hSw); go_simp; try rfl)
  simp only [Act.put, List.setIfInBounds_toArray, List.set_cons_zero, List.set_cons_succ]
  refine wpAnyH_done (by kernel_rfl) ?_ _
  have hbr : Below wz1.heap.size wz1 wr := bel_trans (by go_grown) (bel_trans hq0 (bel_trans hq1 hr))
  replace bw := bel_trans bw hbr
  replace p0 := owns_below p0 hbr
  replace p1 := owns_below p1 hbr
  clear hbr hS0 hSr hr bd kS hS1 hq0 hO0 hS2 hq1 hO1 g0_0 g1_0 g1_1 g1_2 g1_3
  have cc0 : wr.cell? ⟨w.heap.size, 0, none⟩ = some (.slice a0 n0 c0) := by simpa using p0.cellAt 0 (by simp)
  go_wp2_with fail
  refine (kT0 _ (h0.below bw)).mono ?_
  rintro e wx0 ⟨rfl, hO, hb⟩
  have hX0 := hO.codes
  clear hO
  generalize wr.heap.size + 3 = gg0 at hX0 ⊢
  replace bw := bel_trans bw hb
  replace p0 := owns_below p0 hb
  replace p1 := owns_below p1 hb
  clear hb cc0
  have hbx : Below wx0.heap.size wx0 (wx0.alloc (.cells #[.slice (some ⟨gg0, 0, none⟩) n0 n0] 25)) := by go_grown
  have pX0 := fnExactIsDone_box1 wx0 (.slice (some ⟨gg0, 0, none⟩) n0 n0) 25 wx0.heap.size (Nat.le_refl _)
  replace hX0 := hX0.below hbx
  replace bw := bel_trans bw hbx
  replace p0 := owns_below p0 hbx
  replace p1 := owns_below p1 hbx
  clear hbx
  have cc0 : (wx0.alloc (.cells #[.slice (some ⟨gg0, 0, none⟩) n0 n0] 25)).cell? ⟨w.heap.size + 1, 0, none⟩ = some (.slice a1_0 n1_0 c1_0) := by simpa using p1.cellAt 0 (by simp)
  have cc1 : (wx0.alloc (.cells #[.slice (some ⟨gg0, 0, none⟩) n0 n0] 25)).cell? ⟨w.heap.size + 1, 1, none⟩ = some (.slice a1_1 n1_1 c1_1) := by simpa using p1.cellAt 1 (by simp)
  have cc2 : (wx0.alloc (.cells #[.slice (some ⟨gg0, 0, none⟩) n0 n0] 25)).cell? ⟨w.heap.size + 1, 2, none⟩ = some (.slice a1_2 n1_2 c1_2) := by simpa using p1.cellAt 2 (by simp)
  have cc3 : (wx0.alloc (.cells #[.slice (some ⟨gg0, 0, none⟩) n0 n0] 25)).cell? ⟨w.heap.size + 1, 3, none⟩ = some (.slice a1_3 n1_3 c1_3) := by simpa using p1.cellAt 3 (by simp)
  go_wp2_with fail
  generalize (wx0.alloc (.cells #[.slice (some ⟨gg0, 0, none⟩) n0 n0] 25)) = wy0 at *
  generalize wx0.heap.size = GX0 at *
  refine (kT1 _ (h1.below bw)).mono ?_
  rintro e wx1 ⟨⟨⟨⟨e1_0, u1_0, v1_0⟩, ⟨e1_1, u1_1, v1_1⟩, ⟨e1_2, u1_2, v1_2⟩, ⟨e1_3, u1_3, v1_3⟩⟩, rfl, hO⟩, hb⟩
  have hX1 := hO.mem f1
  have uX : S4.val ((e1_0, u1_0, v1_0), (e1_1, u1_1, v1_1), (e1_2, u1_2, v1_2), (e1_3, u1_3, v1_3)) = .agg #[.slice e1_0 u1_0 v1_0, .slice e1_1 u1_1 v1_1, .slice e1_2 u1_2 v1_2, .slice e1_3 u1_3 v1_3] := rfl
  rw [uX]
  clear uX hO
  replace bw := bel_trans bw hb
  replace p0 := owns_below p0 hb
  replace p1 := owns_below p1 hb
  replace hX0 := hX0.below hb
  replace pX0 := owns_below pX0 hb
  clear hb cc0 cc1 cc2 cc3
  have hbx : Below wx1.heap.size wx1 (wx1.alloc (.cells #[.slice e1_0 u1_0 v1_0, .slice e1_1 u1_1 v1_1, .slice e1_2 u1_2 v1_2, .slice e1_3 u1_3 v1_3] 29)) := by go_grown
  have pX1 := box4 wx1 (.slice e1_0 u1_0 v1_0) (.slice e1_1 u1_1 v1_1) (.slice e1_2 u1_2 v1_2) (.slice e1_3 u1_3 v1_3) 29 wx1.heap.size (Nat.le_refl _)
  replace hX1 := hX1.below hbx
  replace bw := bel_trans bw hbx
  replace p0 := owns_below p0 hbx
  replace p1 := owns_below p1 hbx
  replace hX0 := hX0.below hbx
  replace pX0 := owns_below pX0 hbx
  clear hbx
  have cx0_0 : (wx1.alloc (.cells #[.slice e1_0 u1_0 v1_0, .slice e1_1 u1_1 v1_1, .slice e1_2 u1_2 v1_2, .slice e1_3 u1_3 v1_3] 29)).cell? ⟨GX0, 0, none⟩ = some (.slice (some ⟨gg0, 0, none⟩) n0 n0) := by simpa using pX0.cellAt 0 (by simp)
  have cx1_0 : (wx1.alloc (.cells #[.slice e1_0 u1_0 v1_0, .slice e1_1 u1_1 v1_1, .slice e1_2 u1_2 v1_2, .slice e1_3 u1_3 v1_3] 29)).cell? ⟨wx1.heap.size, 0, none⟩ = some (.slice e1_0 u1_0 v1_0) := by simp
  have cx1_1 : (wx1.alloc (.cells #[.slice e1_0 u1_0 v1_0, .slice e1_1 u1_1 v1_1, .slice e1_2 u1_2 v1_2, .slice e1_3 u1_3 v1_3] 29)).cell? ⟨wx1.heap.size, 1, none⟩ = some (.slice e1_1 u1_1 v1_1) := by simp
  have cx1_2 : (wx1.alloc (.cells #[.slice e1_0 u1_0 v1_0, .slice e1_1 u1_1 v1_1, .slice e1_2 u1_2 v1_2, .slice e1_3 u1_3 v1_3] 29)).cell? ⟨wx1.heap.size, 2, none⟩ = some (.slice e1_2 u1_2 v1_2) := by simp
  have cx1_3 : (wx1.alloc (.cells #[.slice e1_0 u1_0 v1_0, .slice e1_1 u1_1 v1_1, .slice e1_2 u1_2 v1_2, .slice e1_3 u1_3 v1_3] 29)).cell? ⟨wx1.heap.size, 3, none⟩ = some (.slice e1_3 u1_3 v1_3) := by simp
  go_wp2_with fail
  generalize (wx1.alloc (.cells #[.slice e1_0 u1_0 v1_0, .slice e1_1 u1_1 v1_1, .slice e1_2 u1_2 v1_2, .slice e1_3 u1_3 v1_3] 29)) = wi at *
  generalize wx1.heap.size = GX1 at *
  have hne : (x0 != x0) = false := by simp
  have hne1 : (x1 != x1) = false := by simp
  refine (kI _ _ _ ((e1_0, u1_0, v1_0), (e1_1, u1_1, v1_1), (e1_2, u1_2, v1_2), (e1_3, u1_3, v1_3)) _ hX0 hX1 (hG0.below bw)).mono ?_
  rintro e wj ⟨rfl, hb⟩
  replace bw := bel_trans bw hb
  replace hX0 := hX0.below hb
  replace p0 := owns_below p0 hb
  replace pX0 := owns_below pX0 hb
  replace hX1 := hX1.below hb
  replace p1 := owns_below p1 hb
  replace pX1 := owns_below pX1 hb
  clear hb kI cx0_0 cx1_0 cx1_1 cx1_2 cx1_3
  have cV0 : wj.cell? ⟨GX0, 0, none⟩ = some (.slice (some ⟨gg0, 0, none⟩) n0 n0) := by simpa using pX0.cellAt 0 (by simp)
  have cC0 : wj.cell? ⟨w.heap.size, 0, none⟩ = some (.slice a0 n0 c0) := by simpa using p0.cellAt 0 (by simp)
  go_wp2_with fail
  have hP : Codes wj.drew a0 n0 c0 r0 := h0.below (bel_trans bw (by go_grown))
  have hV : Codes wj.drew (some ⟨gg0, 0, none⟩) n0 n0 r0 := hX0.below (by go_grown)
  have c8 : (fun w' : World => w'.cell? ⟨GX0, 0, none⟩ = some (.slice (some ⟨gg0, 0, none⟩) n0 n0) ∧ w'.cell? ⟨w.heap.size, 0, none⟩ = some (.slice a0 n0 c0)) wj := ⟨cV0, cC0⟩
  clear cV0 cC0
  go_region_held3 (fun w' => w'.cell? ⟨GX0, 0, none⟩ = some (.slice (some ⟨gg0, 0, none⟩) n0 n0) ∧ w'.cell? ⟨w.heap.size, 0, none⟩ = some (.slice a0 n0 c0)) (first | (exact c8) | (exact c9) | (exact ⟨cells_kept hl0 _ _ c9.1, cells_kept hl0 _ _ c9.2⟩))
    (first | (go_at_call 42; refine (kT0 _ hP).mono ?_; rintro e wk0 ⟨rfl, hOk, hk0⟩; have hD := hV.below hk0; have c9 := (show (fun w' : World => w'.cell? ⟨GX0, 0, none⟩ = some (.slice (some ⟨gg0, 0, none⟩) n0 n0) ∧ w'.cell? ⟨w.heap.size, 0, none⟩ = some (.slice a0 n0 c0)) wk0 from ⟨cells_kept hk0 _ _ c8.1, cells_kept hk0 _ _ c8.2⟩)) | (go_at_call 44; refine (eqProgram_same _ _ _ _ _ r0 _ hD hOk.codes).mono ?_; rintro e wl0 ⟨rfl, hl0⟩))
  have hbw : Below wj.heap.size wj wl0 := bel_trans (by go_grown) (bel_trans hk0 hl0)
  replace bw := bel_trans bw hbw
  replace hX1 := hX1.below hbw
  replace p1 := owns_below p1 hbw
  replace pX1 := owns_below pX1 hbw
  clear hbw hk0 hl0 hD hOk c8 c9 hP hV hX0 pX0 p0
  have cV0 : wl0.cell? ⟨GX1, 0, none⟩ = some (.slice e1_0 u1_0 v1_0) := by simpa using pX1.cellAt 0 (by simp)
  have cV1 : wl0.cell? ⟨GX1, 1, none⟩ = some (.slice e1_1 u1_1 v1_1) := by simpa using pX1.cellAt 1 (by simp)
  have cV2 : wl0.cell? ⟨GX1, 2, none⟩ = some (.slice e1_2 u1_2 v1_2) := by simpa using pX1.cellAt 2 (by simp)
  have cV3 : wl0.cell? ⟨GX1, 3, none⟩ = some (.slice e1_3 u1_3 v1_3) := by simpa using pX1.cellAt 3 (by simp)
  have cC0 : wl0.cell? ⟨w.heap.size + 1, 0, none⟩ = some (.slice a1_0 n1_0 c1_0) := by simpa using p1.cellAt 0 (by simp)
  have cC1 : wl0.cell? ⟨w.heap.size + 1, 1, none⟩ = some (.slice a1_1 n1_1 c1_1) := by simpa using p1.cellAt 1 (by simp)
  have cC2 : wl0.cell? ⟨w.heap.size + 1, 2, none⟩ = some (.slice a1_2 n1_2 c1_2) := by simpa using p1.cellAt 2 (by simp)
  have cC3 : wl0.cell? ⟨w.heap.size + 1, 3, none⟩ = some (.slice a1_3 n1_3 c1_3) := by simpa using p1.cellAt 3 (by simp)
  go_wp2_with fail
  have hP : Vmem wl0.drew ((a1_0, n1_0, c1_0), (a1_1, n1_1, c1_1), (a1_2, n1_2, c1_2), (a1_3, n1_3, c1_3)) m1 := h1.below (bel_trans bw (by go_grown))
  have hV : Vmem wl0.drew ((e1_0, u1_0, v1_0), (e1_1, u1_1, v1_1), (e1_2, u1_2, v1_2), (e1_3, u1_3, v1_3)) m1 := hX1.below (by go_grown)
  have c8 : (fun w' : World => w'.cell? ⟨GX1, 0, none⟩ = some (.slice e1_0 u1_0 v1_0) ∧ w'.cell? ⟨GX1, 1, none⟩ = some (.slice e1_1 u1_1 v1_1) ∧ w'.cell? ⟨GX1, 2, none⟩ = some (.slice e1_2 u1_2 v1_2) ∧ w'.cell? ⟨GX1, 3, none⟩ = some (.slice e1_3 u1_3 v1_3) ∧ w'.cell? ⟨w.heap.size + 1, 0, none⟩ = some (.slice a1_0 n1_0 c1_0) ∧ w'.cell? ⟨w.heap.size + 1, 1, none⟩ = some (.slice a1_1 n1_1 c1_1) ∧ w'.cell? ⟨w.heap.size + 1, 2, none⟩ = some (.slice a1_2 n1_2 c1_2) ∧ w'.cell? ⟨w.heap.size + 1, 3, none⟩ = some (.slice a1_3 n1_3 c1_3)) wl0 := ⟨cV0, cV1, cV2, cV3, cC0, cC1, cC2, cC3⟩
  clear cV0 cV1 cV2 cV3 cC0 cC1 cC2 cC3
  go_region_held3 (fun w' => w'.cell? ⟨GX1, 0, none⟩ = some (.slice e1_0 u1_0 v1_0) ∧ w'.cell? ⟨GX1, 1, none⟩ = some (.slice e1_1 u1_1 v1_1) ∧ w'.cell? ⟨GX1, 2, none⟩ = some (.slice e1_2 u1_2 v1_2) ∧ w'.cell? ⟨GX1, 3, none⟩ = some (.slice e1_3 u1_3 v1_3) ∧ w'.cell? ⟨w.heap.size + 1, 0, none⟩ = some (.slice a1_0 n1_0 c1_0) ∧ w'.cell? ⟨w.heap.size + 1, 1, none⟩ = some (.slice a1_1 n1_1 c1_1) ∧ w'.cell? ⟨w.heap.size + 1, 2, none⟩ = some (.slice a1_2 n1_2 c1_2) ∧ w'.cell? ⟨w.heap.size + 1, 3, none⟩ = some (.slice a1_3 n1_3 c1_3)) (first | (exact c8) | (exact c9) | (exact ⟨cells_kept hl1 _ _ c9.1, cells_kept hl1 _ _ c9.2.1, cells_kept hl1 _ _ c9.2.2.1, cells_kept hl1 _ _ c9.2.2.2.1, cells_kept hl1 _ _ c9.2.2.2.2.1, cells_kept hl1 _ _ c9.2.2.2.2.2.1, cells_kept hl1 _ _ c9.2.2.2.2.2.2.1, cells_kept hl1 _ _ c9.2.2.2.2.2.2.2⟩))
    (first | (go_at_call 43; refine (kT1 _ hP).mono ?_; rintro e wk1 ⟨⟨sk1, rfl, hOk⟩, hk1⟩; have hD := hV.below hk1; have c9 := (show (fun w' : World => w'.cell? ⟨GX1, 0, none⟩ = some (.slice e1_0 u1_0 v1_0) ∧ w'.cell? ⟨GX1, 1, none⟩ = some (.slice e1_1 u1_1 v1_1) ∧ w'.cell? ⟨GX1, 2, none⟩ = some (.slice e1_2 u1_2 v1_2) ∧ w'.cell? ⟨GX1, 3, none⟩ = some (.slice e1_3 u1_3 v1_3) ∧ w'.cell? ⟨w.heap.size + 1, 0, none⟩ = some (.slice a1_0 n1_0 c1_0) ∧ w'.cell? ⟨w.heap.size + 1, 1, none⟩ = some (.slice a1_1 n1_1 c1_1) ∧ w'.cell? ⟨w.heap.size + 1, 2, none⟩ = some (.slice a1_2 n1_2 c1_2) ∧ w'.cell? ⟨w.heap.size + 1, 3, none⟩ = some (.slice a1_3 n1_3 c1_3)) wk1 from ⟨cells_kept hk1 _ _ c8.1, cells_kept hk1 _ _ c8.2.1, cells_kept hk1 _ _ c8.2.2.1, cells_kept hk1 _ _ c8.2.2.2.1, cells_kept hk1 _ _ c8.2.2.2.2.1, cells_kept hk1 _ _ c8.2.2.2.2.2.1, cells_kept hk1 _ _ c8.2.2.2.2.2.2.1, cells_kept hk1 _ _ c8.2.2.2.2.2.2.2⟩)) | (go_at_call 45; refine (eqVm_same ((e1_0, u1_0, v1_0), (e1_1, u1_1, v1_1), (e1_2, u1_2, v1_2), (e1_3, u1_3, v1_3)) sk1 _ _ hD (hOk.mem f1)).mono ?_; rintro e wl1 ⟨rfl, hl1⟩))
  have hbw : Below wl0.heap.size wl0 wl1 := bel_trans (by go_grown) (bel_trans hk1 hl1)
  replace bw := bel_trans bw hbw
  clear hbw hk1 hl1 hD hOk c8 c9 hP hV hX1 pX1 p1
  go_wp2
  go_ret
  exact ⟨rfl, bw⟩
end Go.Proofs.YtkmnnmgopnoffaaDoor
