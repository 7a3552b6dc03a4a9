
/-
  FnExactDepends: both tell the same of who depends.
-/
import Derived.Test.YtgjmangbigibbaaEv0
namespace Go.Proofs.Ytgjmangbigibbaa
open Go.RowKit
set_option linter.unusedVariables false

set_option maxHeartbeats 2000000 in
set_option maxRecDepth 100000 in
theorem fnExactDepends_walk (y0 y1 : I4) (w : World) (_h0 : y0.fits) (_h1 : y1.fits) : Calls Try.prog 3 #[y0.val, y1.val] w fun e w' => e = .returned (.bool true) ∧ Below w.heap.size w w' := by
  have hu : y0.val = .agg #[.int .i64 y0.1, .int .i64 y0.2.1, .int .i64 y0.2.2.1, .int .i64 y0.2.2.2] := rfl
  have hv : y1.val = .agg #[.int .i64 y1.1, .int .i64 y1.2.1, .int .i64 y1.2.2.1, .int .i64 y1.2.2.2] := rfl
  have kS := specDepends_is y0 y1
  have kI := implDepends_is y0 y1
  generalize depM y0 y1 = p at kS kI
  have hne : (p != p) = false := by simp
  obtain ⟨x0, x1, x2, x3⟩ := y0
  obtain ⟨z0, z1, z2, z3⟩ := y1
  simp only at hu hv
  have tX := toEvent_same (x0, x1, x2, x3)
  have tZ := toEvent_same (z0, z1, z2, z3)
  rw [hu] at tX kS kI
  rw [hv] at tZ kS kI
  rw [hu, hv]
  clear hu hv
  go_enter Try.func3, Try.ntmps3
  go_wp2_with fail
  have bw : Below w.heap.size w ((w.alloc (.cells #[.int .i64 x0, .int .i64 x1, .int .i64 x2, .int .i64 x3] 23)).alloc (.cells #[.int .i64 z0, .int .i64 z1, .int .i64 z2, .int .i64 z3] 23)) := by go_grown
  have hC : ((w.alloc (.cells #[.int .i64 x0, .int .i64 x1, .int .i64 x2, .int .i64 x3] 23)).alloc (.cells #[.int .i64 z0, .int .i64 z1, .int .i64 z2, .int .i64 z3] 23)).cell? ⟨w.heap.size, 0, none⟩ = some (.int .i64 x0) ∧ ((w.alloc (.cells #[.int .i64 x0, .int .i64 x1, .int .i64 x2, .int .i64 x3] 23)).alloc (.cells #[.int .i64 z0, .int .i64 z1, .int .i64 z2, .int .i64 z3] 23)).cell? ⟨w.heap.size, 1, none⟩ = some (.int .i64 x1) ∧ ((w.alloc (.cells #[.int .i64 x0, .int .i64 x1, .int .i64 x2, .int .i64 x3] 23)).alloc (.cells #[.int .i64 z0, .int .i64 z1, .int .i64 z2, .int .i64 z3] 23)).cell? ⟨w.heap.size, 2, none⟩ = some (.int .i64 x2) ∧ ((w.alloc (.cells #[.int .i64 x0, .int .i64 x1, .int .i64 x2, .int .i64 x3] 23)).alloc (.cells #[.int .i64 z0, .int .i64 z1, .int .i64 z2, .int .i64 z3] 23)).cell? ⟨w.heap.size, 3, none⟩ = some (.int .i64 x3) ∧ ((w.alloc (.cells #[.int .i64 x0, .int .i64 x1, .int .i64 x2, .int .i64 x3] 23)).alloc (.cells #[.int .i64 z0, .int .i64 z1, .int .i64 z2, .int .i64 z3] 23)).cell? ⟨w.heap.size + 1, 0, none⟩ = some (.int .i64 z0) ∧ ((w.alloc (.cells #[.int .i64 x0, .int .i64 x1, .int .i64 x2, .int .i64 x3] 23)).alloc (.cells #[.int .i64 z0, .int .i64 z1, .int .i64 z2, .int .i64 z3] 23)).cell? ⟨w.heap.size + 1, 1, none⟩ = some (.int .i64 z1) ∧ ((w.alloc (.cells #[.int .i64 x0, .int .i64 x1, .int .i64 x2, .int .i64 x3] 23)).alloc (.cells #[.int .i64 z0, .int .i64 z1, .int .i64 z2, .int .i64 z3] 23)).cell? ⟨w.heap.size + 1, 2, none⟩ = some (.int .i64 z2) ∧ ((w.alloc (.cells #[.int .i64 x0, .int .i64 x1, .int .i64 x2, .int .i64 x3] 23)).alloc (.cells #[.int .i64 z0, .int .i64 z1, .int .i64 z2, .int .i64 z3] 23)).cell? ⟨w.heap.size + 1, 3, none⟩ = some (.int .i64 z3) := by simp [go_sem]
  generalize ((w.alloc (.cells #[.int .i64 x0, .int .i64 x1, .int .i64 x2, .int .i64 x3] 23)).alloc (.cells #[.int .i64 z0, .int .i64 z1, .int .i64 z2, .int .i64 z3] 23)) = U at *
  refine wp_region_held_drew (S := (fun w' => w'.cell? ⟨w.heap.size, 0, none⟩ = some (.int .i64 x0) ∧ w'.cell? ⟨w.heap.size, 1, none⟩ = some (.int .i64 x1) ∧ w'.cell? ⟨w.heap.size, 2, none⟩ = some (.int .i64 x2) ∧ w'.cell? ⟨w.heap.size, 3, none⟩ = some (.int .i64 x3) ∧ w'.cell? ⟨w.heap.size + 1, 0, none⟩ = some (.int .i64 z0) ∧ w'.cell? ⟨w.heap.size + 1, 1, none⟩ = some (.int .i64 z1) ∧ w'.cell? ⟨w.heap.size + 1, 2, none⟩ = some (.int .i64 z2) ∧ w'.cell? ⟨w.heap.size + 1, 3, none⟩ = some (.int .i64 z3))) (by kernel_rfl) hC (fun hS0 => ?_)
  refine wpAnyH_take (i := 0) (oi := { dst := some 7, op := _, type := _, pos := _, after := _, guard := _ }) (v := .agg #[.int .i64 x0, .int .i64 x1, .int .i64 x2, .int .i64 x3]) rfl (by kernel_rfl) (by kernel_rfl) (by kernel_rfl) (fun _ _ _ h => h) (Or.inl ⟨by rfl, ?_⟩) (by assumption) ?_
  · (intro w' hSw; (try dsimp only at hSw); go_simp; try rfl)
  simp only [Act.put, List.setIfInBounds_toArray, List.set_cons_zero, List.set_cons_succ]
  refine wpAnyH_take (i := 2) (oi := { dst := some 9, op := _, type := _, pos := _, after := _, guard := _ }) (v := .agg #[.int .i64 z0, .int .i64 z1, .int .i64 z2, .int .i64 z3]) rfl (by kernel_rfl) (by kernel_rfl) (by kernel_rfl) (fun _ _ _ h => h) (Or.inl ⟨by rfl, ?_⟩) (by assumption) ?_
  · (intro w' hSw; (try dsimp only at hSw); go_simp; try rfl)
  simp only [Act.put, List.setIfInBounds_toArray, List.set_cons_zero, List.set_cons_succ]
  refine wpAnyH_ready (rs := [1]) (by kernel_rfl) (by simp) ?_
  refine AllReadyH.cons (o := { dst := some 8, op := _, type := _, pos := _, after := _, guard := _ }) rfl (fun K hK => ?_) AllReadyH.nil
  go_simp
  refine (tX _).mono ?_
  rintro e u1 ⟨rfl, hb1⟩
  go_wp2_with fail
  refine hK.out _ _ ?_ (fun hS1 => ?_)
  · exact ⟨cells_kept hb1 _ _ hS0.1, cells_kept hb1 _ _ hS0.2.1, cells_kept hb1 _ _ hS0.2.2.1, cells_kept hb1 _ _ hS0.2.2.2.1, cells_kept hb1 _ _ hS0.2.2.2.2.1, cells_kept hb1 _ _ hS0.2.2.2.2.2.1, cells_kept hb1 _ _ hS0.2.2.2.2.2.2.1, cells_kept hb1 _ _ hS0.2.2.2.2.2.2.2⟩
  clear hK
  refine wpAnyH_ready (rs := [3]) (by kernel_rfl) (by simp) ?_
  refine AllReadyH.cons (o := { dst := some 10, op := _, type := _, pos := _, after := _, guard := _ }) rfl (fun K hK => ?_) AllReadyH.nil
  go_simp
  refine (tZ _).mono ?_
  rintro e u2 ⟨rfl, hb2⟩
  go_wp2_with fail
  refine hK.out _ _ ?_ (fun hS2 => ?_)
  · exact ⟨cells_kept hb2 _ _ hS1.1, cells_kept hb2 _ _ hS1.2.1, cells_kept hb2 _ _ hS1.2.2.1, cells_kept hb2 _ _ hS1.2.2.2.1, cells_kept hb2 _ _ hS1.2.2.2.2.1, cells_kept hb2 _ _ hS1.2.2.2.2.2.1, cells_kept hb2 _ _ hS1.2.2.2.2.2.2.1, cells_kept hb2 _ _ hS1.2.2.2.2.2.2.2⟩
  clear hK
  refine wpAnyH_ready (rs := [4]) (by kernel_rfl) (by simp) ?_
  refine AllReadyH.cons (o := { dst := some 11, op := _, type := _, pos := _, after := _, guard := _ }) rfl (fun K hK => ?_) AllReadyH.nil
  go_simp
  refine (kS _).mono ?_
  rintro e u3 ⟨rfl, hb3⟩
  go_wp2_with fail
  refine hK.out _ _ ?_ (fun hS3 => ?_)
  · exact ⟨cells_kept hb3 _ _ hS2.1, cells_kept hb3 _ _ hS2.2.1, cells_kept hb3 _ _ hS2.2.2.1, cells_kept hb3 _ _ hS2.2.2.2.1, cells_kept hb3 _ _ hS2.2.2.2.2.1, cells_kept hb3 _ _ hS2.2.2.2.2.2.1, cells_kept hb3 _ _ hS2.2.2.2.2.2.2.1, cells_kept hb3 _ _ hS2.2.2.2.2.2.2.2⟩
  clear hK
  refine wpAnyH_take (i := 5) (oi := { dst := some 5, op := _, type := _, pos := _, after := _, guard := _ }) (v := .bool p) rfl (by kernel_rfl) (by kernel_rfl) (by kernel_rfl) (fun _ _ _ h => h) (Or.inl ⟨by rfl, ?_⟩) (by assumption) ?_
  · (intro w' hSw; (try dsimp only at hSw); go_simp; try rfl)
  simp only [Act.put, List.setIfInBounds_toArray, List.set_cons_zero, List.set_cons_succ]
  refine wpAnyH_done (by kernel_rfl) ?_ _
  clear hC hS0 hS1 hS2
  replace bw : Below w.heap.size w u3 := bel_trans bw (bel_trans (by go_grown : Below U.heap.size U U.drew) (bel_trans hb1 (bel_trans hb2 hb3)))
  clear hb1 hb2 hb3 kS
  have hC := hS3
  clear hS3
  go_wp2_with fail
  refine wp_region_held_drew (S := (fun w' => w'.cell? ⟨w.heap.size, 0, none⟩ = some (.int .i64 x0) ∧ w'.cell? ⟨w.heap.size, 1, none⟩ = some (.int .i64 x1) ∧ w'.cell? ⟨w.heap.size, 2, none⟩ = some (.int .i64 x2) ∧ w'.cell? ⟨w.heap.size, 3, none⟩ = some (.int .i64 x3) ∧ w'.cell? ⟨w.heap.size + 1, 0, none⟩ = some (.int .i64 z0) ∧ w'.cell? ⟨w.heap.size + 1, 1, none⟩ = some (.int .i64 z1) ∧ w'.cell? ⟨w.heap.size + 1, 2, none⟩ = some (.int .i64 z2) ∧ w'.cell? ⟨w.heap.size + 1, 3, none⟩ = some (.int .i64 z3))) (by kernel_rfl) hC (fun hS0 => ?_)
  refine wpAnyH_take (i := 0) (oi := { dst := some 12, op := _, type := _, pos := _, after := _, guard := _ }) (v := .agg #[.int .i64 x0, .int .i64 x1, .int .i64 x2, .int .i64 x3]) rfl (by kernel_rfl) (by kernel_rfl) (by kernel_rfl) (fun _ _ _ h => h) (Or.inl ⟨by rfl, ?_⟩) (by assumption) ?_
  · (intro w' hSw; (try dsimp only at hSw); go_simp; try rfl)
  simp only [Act.put, List.setIfInBounds_toArray, List.set_cons_zero, List.set_cons_succ]
  refine wpAnyH_take (i := 2) (oi := { dst := some 14, op := _, type := _, pos := _, after := _, guard := _ }) (v := .agg #[.int .i64 z0, .int .i64 z1, .int .i64 z2, .int .i64 z3]) rfl (by kernel_rfl) (by kernel_rfl) (by kernel_rfl) (fun _ _ _ h => h) (Or.inl ⟨by rfl, ?_⟩) (by assumption) ?_
  · (intro w' hSw; (try dsimp only at hSw); go_simp; try rfl)
  simp only [Act.put, List.setIfInBounds_toArray, List.set_cons_zero, List.set_cons_succ]
  refine wpAnyH_ready (rs := [1]) (by kernel_rfl) (by simp) ?_
  refine AllReadyH.cons (o := { dst := some 13, op := _, type := _, pos := _, after := _, guard := _ }) rfl (fun K hK => ?_) AllReadyH.nil
  go_simp
  refine (tX _).mono ?_
  rintro e v1 ⟨rfl, hb1⟩
  go_wp2_with fail
  refine hK.out _ _ ?_ (fun hS1 => ?_)
  · exact ⟨cells_kept hb1 _ _ hS0.1, cells_kept hb1 _ _ hS0.2.1, cells_kept hb1 _ _ hS0.2.2.1, cells_kept hb1 _ _ hS0.2.2.2.1, cells_kept hb1 _ _ hS0.2.2.2.2.1, cells_kept hb1 _ _ hS0.2.2.2.2.2.1, cells_kept hb1 _ _ hS0.2.2.2.2.2.2.1, cells_kept hb1 _ _ hS0.2.2.2.2.2.2.2⟩
  clear hK
  refine wpAnyH_ready (rs := [3]) (by kernel_rfl) (by simp) ?_
  refine AllReadyH.cons (o := { dst := some 15, op := _, type := _, pos := _, after := _, guard := _ }) rfl (fun K hK => ?_) AllReadyH.nil
  go_simp
  refine (tZ _).mono ?_
  rintro e v2 ⟨rfl, hb2⟩
  go_wp2_with fail
  refine hK.out _ _ ?_ (fun hS2 => ?_)
  · exact ⟨cells_kept hb2 _ _ hS1.1, cells_kept hb2 _ _ hS1.2.1, cells_kept hb2 _ _ hS1.2.2.1, cells_kept hb2 _ _ hS1.2.2.2.1, cells_kept hb2 _ _ hS1.2.2.2.2.1, cells_kept hb2 _ _ hS1.2.2.2.2.2.1, cells_kept hb2 _ _ hS1.2.2.2.2.2.2.1, cells_kept hb2 _ _ hS1.2.2.2.2.2.2.2⟩
  clear hK
  refine wpAnyH_ready (rs := [4]) (by kernel_rfl) (by simp) ?_
  refine AllReadyH.cons (o := { dst := some 16, op := _, type := _, pos := _, after := _, guard := _ }) rfl (fun K hK => ?_) AllReadyH.nil
  go_simp
  refine (kI _).mono ?_
  rintro e v3 ⟨rfl, hb3⟩
  go_wp2_with fail
  refine hK.out _ _ ?_ (fun hS3 => ?_)
  · exact ⟨cells_kept hb3 _ _ hS2.1, cells_kept hb3 _ _ hS2.2.1, cells_kept hb3 _ _ hS2.2.2.1, cells_kept hb3 _ _ hS2.2.2.2.1, cells_kept hb3 _ _ hS2.2.2.2.2.1, cells_kept hb3 _ _ hS2.2.2.2.2.2.1, cells_kept hb3 _ _ hS2.2.2.2.2.2.2.1, cells_kept hb3 _ _ hS2.2.2.2.2.2.2.2⟩
  clear hK
  refine wpAnyH_take (i := 5) (oi := { dst := some 6, op := _, type := _, pos := _, after := _, guard := _ }) (v := .bool p) rfl (by kernel_rfl) (by kernel_rfl) (by kernel_rfl) (fun _ _ _ h => h) (Or.inl ⟨by rfl, ?_⟩) (by assumption) ?_
  · (intro w' hSw; (try dsimp only at hSw); go_simp; try rfl)
  simp only [Act.put, List.setIfInBounds_toArray, List.set_cons_zero, List.set_cons_succ]
  refine wpAnyH_done (by kernel_rfl) ?_ _
  replace bw : Below w.heap.size w v3 := bel_trans bw (bel_trans (by go_grown : Below u3.heap.size u3 u3.drew) (bel_trans hb1 (bel_trans hb2 hb3)))
  clear hC hS0 hS1 hS2 hb1 hb2 hb3 kI hS3
  go_wp2
  go_ret
  exact ⟨rfl, bw⟩
end Go.Proofs.Ytgjmangbigibbaa
