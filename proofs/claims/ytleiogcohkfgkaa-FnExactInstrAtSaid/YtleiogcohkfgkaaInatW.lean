
/-
  FnExactInstrAt, given what both answer: the law's walk.
-/
import Derived.Test.YtleiogcohkfgkaaVm1
import Derived.Test.YtleiogcohkfgkaaVm2
import Derived.Test.YtleiogcohkfgkaaSizeB

import Derived.Test.YtleiogcohkfgkaaVerA
import Derived.Deep.RegionHeld3
namespace Go.Proofs.Ytleiogcohkfgkaa
open Go.RowKit

theorem fnExactInstrAt_box1 (w : World) (v : Value) (t : TypeId) (B : Nat) (hB : B ≤ w.heap.size) : (w.alloc (.cells #[v] t)).ownsRow B t 1 (.slice (some ⟨w.heap.size, 0, none⟩) 1 1) 1 [v] := World.ownsRow_lit w #[v] 1 hB (by unfold maxLen; omega) rfl

set_option maxHeartbeats 8000000 in
set_option maxRecDepth 100000 in
theorem fnExactInstrAt_of (a0 : Option Addr) (n0 c0 : Nat) (r0 : List (List I3)) (i1 : Int) (y0 y1 y2 : Int) (x0 : Bool) (x1 : Int) (w : World) (h0 : Codes w a0 n0 c0 r0) 
    (kS : ∀ (a0 : Option Addr) (n0 c0 : Nat) (w : World), Codes w a0 n0 c0 r0 → Calls Try.prog 15 #[.agg #[.slice a0 n0 c0], .int .i64 i1] w fun e w' => e = .returned (.tuple #[.agg #[.int .i64 y0, .int .i64 y1, .int .i64 y2], .bool x0, .int .i64 x1]) ∧ Below w.heap.size w w')
    (kI : ∀ (a0 : Option Addr) (n0 c0 : Nat) (w : World), Codes w a0 n0 c0 r0 → Calls Try.prog 16 #[.agg #[.slice a0 n0 c0], .int .i64 i1] w fun e w' => e = .returned (.tuple #[.agg #[.int .i64 y0, .int .i64 y1, .int .i64 y2], .bool x0, .int .i64 x1]) ∧ Below w.heap.size w w') :
    Calls Try.prog 4 #[.agg #[.slice a0 n0 c0], .int .i64 i1] w fun e w' => e = .returned (.bool true) ∧ Below w.heap.size w w' := by
  have kT0 := fun w h => toProgram_copy a0 n0 c0 r0 w h
  have bw : Below w.heap.size w (w.alloc (.cells #[.slice a0 n0 c0] 24)) := by go_grown
  have p0 : (w.alloc (.cells #[.slice a0 n0 c0] 24)).ownsRow w.heap.size 24 1 (.slice (some ⟨w.heap.size, 0, none⟩) 1 1) 1 [.slice a0 n0 c0] := by
    have h9 := fnExactInstrAt_box1 w (.slice a0 n0 c0) 24 w.heap.size (Nat.le_refl _)
    skip
    exact h9
  go_enter Try.func4, Try.ntmps4
  go_wp2_with fail
  generalize (w.alloc (.cells #[.slice a0 n0 c0] 24)) = W0 at *
  have hz := sizeLeft_or r0 1048576 (by omega)
  have hbd := size_bounds (rows := r0) (left := 1048576) (by omega)
  refine (szProgram_less a0 n0 c0 r0 1048576 _ (h0.below bw) (by omega) (by omega)).mono ?_
  rintro e wz0 ⟨rfl, hb⟩
  generalize sizeLeft 1048576 r0 = z0 at hz hbd
  replace bw := bel_trans bw hb
  replace p0 := owns_below p0 hb
  clear hb 
  rcases hz with rfl | ⟨yz, xz⟩
  · clear hbd
    go_wp2
    go_ret
    exact ⟨rfl, bw⟩
  obtain ⟨hr, hr'⟩ := hbd yz (by omega)
  have hlen : n0 ≤ 1048576 := by rw [← h0.1]; exact hr
  replace kT0 := fun w h => kT0 w h hlen (fun t _ => hr' t)
  clear hbd hr hr' hlen
  have hn0 : decide (z0 < 0) = false := by simp; omega
  clear yz xz
  have g0_0 : wz0.cell? ⟨w.heap.size, 0, none⟩ = some (.slice a0 n0 c0) := by simpa using p0.cellAt 0 (by simp)
  go_wp2_with fail
  refine (kT0 _ (h0.below bw)).mono ?_
  rintro e wq0 ⟨rfl, hO0, hq0⟩
  have hM0 := hO0.codes
  replace bw := bel_trans bw hq0
  replace p0 := owns_below p0 hq0
  clear hq0 hO0 g0_0
  go_wp2_with fail
  refine (kS _ _ _ _ hM0).mono ?_
  rintro e wr ⟨rfl, hr⟩
  replace bw := bel_trans bw hr
  replace p0 := owns_below p0 hr
  clear hr hM0 kS
  have bY : Below wr.heap.size wr (wr.alloc (.cells #[.int .i64 y0, .int .i64 y1, .int .i64 y2] 39)) := by go_grown
  have pY : Blk (wr.alloc (.cells #[.int .i64 y0, .int .i64 y1, .int .i64 y2] 39)) wr.heap.size 39 [.int .i64 y0, .int .i64 y1, .int .i64 y2] := Blk.new wr 39 [.int .i64 y0, .int .i64 y1, .int .i64 y2]
  replace bw := bel_trans bw bY
  replace p0 := owns_below p0 bY
  clear bY
  have cc0 : (wr.alloc (.cells #[.int .i64 y0, .int .i64 y1, .int .i64 y2] 39)).cell? ⟨w.heap.size, 0, none⟩ = some (.slice a0 n0 c0) := by simpa using p0.cellAt 0 (by simp)
  go_wp2_with fail
  generalize (wr.alloc (.cells #[.int .i64 y0, .int .i64 y1, .int .i64 y2] 39)) = ws at *
  generalize wr.heap.size = GY at *
  refine (kT0 _ (h0.below bw)).mono ?_
  rintro e wx0 ⟨rfl, hO, hb⟩
  have hX0 := hO.codes
  clear hO
  generalize ws.heap.size + 3 = gg0 at hX0 ⊢
  replace bw := bel_trans bw hb
  replace p0 := owns_below p0 hb
  replace pY := pY.below hb
  clear hb cc0
  have hbx : Below wx0.heap.size wx0 (wx0.alloc (.cells #[.slice (some ⟨gg0, 0, none⟩) n0 n0] 31)) := by go_grown
  have pX0 := fnExactInstrAt_box1 wx0 (.slice (some ⟨gg0, 0, none⟩) n0 n0) 31 wx0.heap.size (Nat.le_refl _)
  replace hX0 := hX0.below hbx
  replace bw := bel_trans bw hbx
  replace p0 := owns_below p0 hbx
  replace pY := pY.below hbx
  clear hbx
  have cx0_0 : (wx0.alloc (.cells #[.slice (some ⟨gg0, 0, none⟩) n0 n0] 31)).cell? ⟨wx0.heap.size, 0, none⟩ = some (.slice (some ⟨gg0, 0, none⟩) n0 n0) := by simp
  go_wp2_with fail
  generalize (wx0.alloc (.cells #[.slice (some ⟨gg0, 0, none⟩) n0 n0] 31)) = wi at *
  generalize wx0.heap.size = GX0 at *
  have hne : (x0 != x0) = false := by simp
  have hne1 : (x1 != x1) = false := by simp
  refine (kI _ _ _ _ hX0).mono ?_
  rintro e wi2 ⟨rfl, hb⟩
  replace bw := bel_trans bw hb
  replace hX0 := hX0.below hb
  replace p0 := owns_below p0 hb
  replace pX0 := owns_below pX0 hb
  replace pY := pY.below hb
  clear hb kI cx0_0
  have bY : Below wi2.heap.size wi2 (wi2.alloc (.cells #[.int .i64 y0, .int .i64 y1, .int .i64 y2] 39)) := by go_grown
  have pZ : Blk (wi2.alloc (.cells #[.int .i64 y0, .int .i64 y1, .int .i64 y2] 39)) wi2.heap.size 39 [.int .i64 y0, .int .i64 y1, .int .i64 y2] := Blk.new wi2 39 [.int .i64 y0, .int .i64 y1, .int .i64 y2]
  replace bw := bel_trans bw bY
  replace p0 := owns_below p0 bY
  replace pX0 := owns_below pX0 bY
  replace hX0 := hX0.below bY
  replace pY := pY.below bY
  clear bY
  have u0 := pY.cell 0
  have u1 := pY.cell 1
  have u2 := pY.cell 2
  have v0 := pZ.cell 0
  have v1 := pZ.cell 1
  have v2 := pZ.cell 2
  simp only [List.getElem?_cons_zero, List.getElem?_cons_succ] at u0 u1 u2 v0 v1 v2
  clear pY pZ
  have kE := fun W => eqInstr_same (y0, y1, y2) W
  simp only [I3.val] at kE
  go_wp2_with fail
  refine (kE _).mono ?_
  rintro e wj ⟨rfl, hb⟩
  replace bw := bel_trans bw hb
  replace hX0 := hX0.below hb
  replace p0 := owns_below p0 hb
  replace pX0 := owns_below pX0 hb
  clear hb kE u0 u1 u2 v0 v1 v2
  have cV0 : wj.cell? ⟨GX0, 0, none⟩ = some (.slice (some ⟨gg0, 0, none⟩) n0 n0) := by simpa using pX0.cellAt 0 (by simp)
  have cC0 : wj.cell? ⟨w.heap.size, 0, none⟩ = some (.slice a0 n0 c0) := by simpa using p0.cellAt 0 (by simp)
  go_wp2_with fail
  have hP : Codes wj.drew a0 n0 c0 r0 := h0.below (bel_trans bw (by go_grown))
  have hV : Codes wj.drew (some ⟨gg0, 0, none⟩) n0 n0 r0 := hX0.below (by go_grown)
  have c8 : (fun w' : World => w'.cell? ⟨GX0, 0, none⟩ = some (.slice (some ⟨gg0, 0, none⟩) n0 n0) ∧ w'.cell? ⟨w.heap.size, 0, none⟩ = some (.slice a0 n0 c0)) wj := ⟨cV0, cC0⟩
  clear cV0 cC0
  go_region_held3 (fun w' => w'.cell? ⟨GX0, 0, none⟩ = some (.slice (some ⟨gg0, 0, none⟩) n0 n0) ∧ w'.cell? ⟨w.heap.size, 0, none⟩ = some (.slice a0 n0 c0)) (first | (exact c8) | (exact c9) | (exact ⟨cells_kept hl0 _ _ c9.1, cells_kept hl0 _ _ c9.2⟩))
    (first | (go_at_call 8; refine (kT0 _ hP).mono ?_; rintro e wk0 ⟨rfl, hOk, hk0⟩; have hD := hV.below hk0; have c9 := (show (fun w' : World => w'.cell? ⟨GX0, 0, none⟩ = some (.slice (some ⟨gg0, 0, none⟩) n0 n0) ∧ w'.cell? ⟨w.heap.size, 0, none⟩ = some (.slice a0 n0 c0)) wk0 from ⟨cells_kept hk0 _ _ c8.1, cells_kept hk0 _ _ c8.2⟩)) | (go_at_call 11; refine (eqProgram_same _ _ _ _ _ r0 _ hD hOk.codes).mono ?_; rintro e wl0 ⟨rfl, hl0⟩))
  have hbw : Below wj.heap.size wj wl0 := bel_trans (by go_grown) (bel_trans hk0 hl0)
  replace bw := bel_trans bw hbw
  clear hbw hk0 hl0 hD hOk c8 c9 hP hV hX0 pX0 p0
  go_wp2
  go_ret
  exact ⟨rfl, bw⟩

theorem fnExactInstrAt_walk (a0 : Option Addr) (n0 c0 : Nat) (r0 : List (List I3)) (i1 : Int) (wi : (Lit.int .i64 i1).wf = true) (w : World) (h0 : Codes w a0 n0 c0 r0) :
    Calls Try.prog 4 #[.agg #[.slice a0 n0 c0], .int .i64 i1] w fun e w' => e = .returned (.bool true) ∧ Below w.heap.size w w' :=
  fnExactInstrAt_of a0 n0 c0 r0 i1 _ _ _ _ _ w h0 (fun a n c w h => specInstrAt_is a n c r0 i1 w h (in_wf8 wi)) (fun a n c w h => implInstrAt_is a n c r0 i1 w h (in_wf8 wi))
end Go.Proofs.Ytleiogcohkfgkaa
