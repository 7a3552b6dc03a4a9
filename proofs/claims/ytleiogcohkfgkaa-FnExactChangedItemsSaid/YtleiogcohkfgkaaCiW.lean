
/-
  FnExactChangedItems, given what both answer: the law's walk (marks and all).
-/
import Derived.Test.YtleiogcohkfgkaaRwL9
import Derived.Test.YtleiogcohkfgkaaMrkT
import Derived.Test.YtleiogcohkfgkaaSizeB
import Derived.Test.YtleiogcohkfgkaaProg4
import Derived.Test.YtleiogcohkfgkaaProg5
import Derived.Test.YtleiogcohkfgkaaCopyG
import Derived.Test.YtleiogcohkfgkaaVerD
import Derived.Deep.RegionHeld3
namespace Go.Proofs.Ytleiogcohkfgkaa
open Go.RowKit
set_option linter.unusedVariables false
set_option linter.unusedSimpArgs false

set_option maxHeartbeats 16000000 in
set_option maxRecDepth 100000 in
theorem fnExactChangedItems_of (a0 : Option Addr) (n0 c0 : Nat) (r0 : List (List I3)) (a1 : Option Addr) (n1 c1 : Nat) (r1 : List (List I3)) (z : List Int) (hz9 : z.length ≤ 1000) (e0 : Int) (w : World) (h0 : Codes w a0 n0 c0 r0) (h1 : Codes w a1 n1 c1 r1)
    (kS : ∀ (a0 : Option Addr) (n0 c0 : Nat) (a1 : Option Addr) (n1 c1 : Nat) (w : World), Codes w a0 n0 c0 r0 → Codes w a1 n1 c1 r1 → Calls Try.prog 7 #[.agg #[.slice a0 n0 c0], .agg #[.slice a1 n1 c1]] w fun e w' => (∃ v, e = .returned (.tuple #[v, .int .i64 e0]) ∧ OwnL9 w' w.heap.size v z) ∧ Below w.heap.size w w')
    (kI : ∀ (a0 : Option Addr) (n0 c0 : Nat) (a1 : Option Addr) (n1 c1 : Nat) (w : World), Codes w a0 n0 c0 r0 → Codes w a1 n1 c1 r1 → Calls Try.prog 9 #[.agg #[.slice a0 n0 c0], .agg #[.slice a1 n1 c1]] w fun e w' => (∃ v, e = .returned (.tuple #[v, .int .i64 e0]) ∧ OwnL9 w' w.heap.size v z) ∧ Below w.heap.size w w') :
    Calls Try.prog 3 #[.agg #[.slice a0 n0 c0], .agg #[.slice a1 n1 c1]] w fun e w' => e = .returned (.bool true) ∧ Below w.heap.size w w' := by
  have kT0 := fun w h => toProgram_copy a0 n0 c0 r0 w h
  have kO0 := fun w h => toProgram_own a0 n0 c0 r0 w h
  have kT1 := fun w h => toProgram_copy a1 n1 c1 r1 w h
  have kO1 := fun w h => toProgram_own a1 n1 c1 r1 w h
  have bw : Below w.heap.size w ((w.alloc (.cells #[.slice a0 n0 c0] 24)).alloc (.cells #[.slice a1 n1 c1] 24)) := by go_grown
  have p0 : Blk ((w.alloc (.cells #[.slice a0 n0 c0] 24)).alloc (.cells #[.slice a1 n1 c1] 24)) w.heap.size 24 [.slice a0 n0 c0] := blkOld _ (blkAt _ _ _ rfl)
  have p1 : Blk ((w.alloc (.cells #[.slice a0 n0 c0] 24)).alloc (.cells #[.slice a1 n1 c1] 24)) (w.heap.size + 1) 24 [.slice a1 n1 c1] := blkAt _ _ _ (by simp)
  go_enter Try.func3, Try.ntmps3
  go_wp2_with fail
  generalize ((w.alloc (.cells #[.slice a0 n0 c0] 24)).alloc (.cells #[.slice a1 n1 c1] 24)) = W0 at *
  have hz := sizeLeft_or r0 1048576 (by omega)
  have hbd := size_bounds (rows := r0) (left := 1048576) (by omega)
  have hcb := fun h => sizeLeft_cnt (rows := r0) (left := 1048576) h
  refine (szProgram_less a0 n0 c0 r0 1048576 _ (h0.below bw) (by omega) (by omega)).mono ?_
  rintro e wz0 ⟨rfl, hb⟩
  generalize sizeLeft 1048576 r0 = z0 at hz hbd hcb
  replace bw := bel_trans bw hb
  replace p0 := p0.below hb
  replace p1 := p1.below hb
  clear hb
  rcases hz with rfl | ⟨y0, x0'⟩
  · clear hbd hcb
    go_wp2
    go_ret
    exact ⟨rfl, bw⟩
  obtain ⟨hr, hr'⟩ := hbd y0 (by omega)
  have hcnt := hcb y0
  have hlen : n0 ≤ 1048576 := by rw [← h0.1]; exact hr
  replace kT0 := fun w h => kT0 w h hlen (fun t _ => hr' t)
  replace kO0 := fun w h => kO0 w h hlen (fun t _ => hr' t)
  have hcl0 : cntP r0 r0.length ≤ 10000000 := by omega
  have hcj0 : ∀ j, j ≤ r0.length → cntP r0 j ≤ 10000000 := fun j hj => by have := cntP_mono r0 j; omega
  have HRJ0 : Hid (∀ j, j < r0.length → (r0.getD j []).length ≤ 1048576) := fun j _ => hr' j
  clear hbd hr hr' hlen hcb hcnt
  have hn0 : decide (z0 < 0) = false := by simp; omega
  have cc := p1.cell 0
  simp only [List.getElem?_cons_zero] at cc
  go_wp2_with fail
  clear cc
  have hz := sizeLeft_or r1 z0 (by omega)
  have hbd := size_bounds (rows := r1) (left := z0) (by omega)
  have hcb := fun h => sizeLeft_cnt (rows := r1) (left := z0) h
  refine (szProgram_less a1 n1 c1 r1 z0 _ (h1.below bw) (by omega) (by omega)).mono ?_
  rintro e wz1 ⟨rfl, hb⟩
  generalize sizeLeft z0 r1 = z1 at hz hbd hcb
  replace bw := bel_trans bw hb
  replace p0 := p0.below hb
  replace p1 := p1.below hb
  clear hb
  rcases hz with rfl | ⟨y1, x1'⟩
  · clear hbd hcb
    go_wp2
    go_ret
    exact ⟨rfl, bw⟩
  obtain ⟨hr, hr'⟩ := hbd y1 (by omega)
  have hcnt := hcb y1
  have hlen : n1 ≤ 1048576 := by rw [← h1.1]; exact hr
  replace kT1 := fun w h => kT1 w h hlen (fun t _ => hr' t)
  replace kO1 := fun w h => kO1 w h hlen (fun t _ => hr' t)
  have hcl1 : cntP r1 r1.length ≤ 10000000 := by omega
  have hcj1 : ∀ j, j ≤ r1.length → cntP r1 j ≤ 10000000 := fun j hj => by have := cntP_mono r1 j; omega
  have HRJ1 : Hid (∀ j, j < r1.length → (r1.getD j []).length ≤ 1048576) := fun j _ => hr' j
  clear hbd hr hr' hlen hcb hcnt
  have hn1 : decide (z1 < 0) = false := by simp; omega
  clear y0 x0' y1 x1'
  have g0 := p0.cell 0
  have g1 := p1.cell 0
  simp only [List.getElem?_cons_zero] at g0 g1
  go_wp2_with fail
  have bd : Below w.heap.size w wz1.drew := bel_trans bw (by go_grown)
  refine wp_region_held_drew (S := (fun w' => w'.cell? ⟨w.heap.size, 0, none⟩ = some (.slice a0 n0 c0) ∧ w'.cell? ⟨w.heap.size + 1, 0, none⟩ = some (.slice a1 n1 c1))) (by kernel_rfl) ⟨g0, g1⟩ (fun hS0 => ?_)
  refine wpAnyH_take (i := 0) (oi := { dst := some 28, op := _, type := _, pos := _, after := _, guard := _ }) (v := .agg #[.slice a0 n0 c0]) rfl (by kernel_rfl) (by kernel_rfl) (by kernel_rfl) (fun _ _ _ h => h) (Or.inl ⟨by rfl, ?_⟩) (by assumption) ?_
  · (intro w' hSw; (try dsimp only at hSw); go_simp; try rfl)
  simp only [Act.put, List.setIfInBounds_toArray, List.set_cons_zero, List.set_cons_succ]
  refine wpAnyH_take (i := 2) (oi := { dst := some 30, op := _, type := _, pos := _, after := _, guard := _ }) (v := .agg #[.slice a1 n1 c1]) rfl (by kernel_rfl) (by kernel_rfl) (by kernel_rfl) (fun _ _ _ h => h) (Or.inl ⟨by rfl, ?_⟩) (by assumption) ?_
  · (intro w' hSw; (try dsimp only at hSw); go_simp; try rfl)
  simp only [Act.put, List.setIfInBounds_toArray, List.set_cons_zero, List.set_cons_succ]
  refine wpAnyH_ready (rs := [1]) (by kernel_rfl) (by simp) ?_
  refine AllReadyH.cons (o := { dst := some 29, op := _, type := _, pos := _, after := _, guard := _ }) rfl (fun K hK => ?_) AllReadyH.nil
  go_simp
  refine (kT0 _ (h0.below bd)).mono ?_
  rintro e wq0 ⟨rfl, hO0, hq0⟩
  go_wp2_with fail
  refine hK.out _ _ ?_ (fun hS1 => ?_)
  · exact ⟨cells_kept hq0 _ _ hS0.1, cells_kept hq0 _ _ hS0.2⟩
  clear hK
  refine wpAnyH_ready (rs := [3]) (by kernel_rfl) (by simp) ?_
  refine AllReadyH.cons (o := { dst := some 31, op := _, type := _, pos := _, after := _, guard := _ }) rfl (fun K hK => ?_) AllReadyH.nil
  go_simp
  refine (kT1 _ (h1.below (bel_trans bd hq0))).mono ?_
  rintro e wq1 ⟨rfl, hO1, hq1⟩
  go_wp2_with fail
  refine hK.out _ _ ?_ (fun hS2 => ?_)
  · exact ⟨cells_kept hq1 _ _ hS1.1, cells_kept hq1 _ _ hS1.2⟩
  clear hK
  refine wpAnyH_ready (rs := [4]) (by kernel_rfl) (by simp) ?_
  refine AllReadyH.cons (o := { dst := some 32, op := _, type := _, pos := _, after := _, guard := _ }) rfl (fun K hK => ?_) AllReadyH.nil
  go_simp
  refine (kS _ _ _ _ _ _ _ (hO0.codes.below hq1) hO1.codes).mono ?_
  rintro e wr ⟨⟨vs, rfl, hR⟩, hr⟩
  go_wp2_with fail
  refine hK.out _ _ ?_ (fun hSr => ?_)
  · exact ⟨cells_kept hr _ _ hS2.1, cells_kept hr _ _ hS2.2⟩
  clear hK
  refine wpAnyH_take (i := 5) (oi := { dst := some 27, op := _, type := _, pos := _, after := _, guard := _ }) (v := .tuple #[vs, .int .i64 e0]) rfl (by kernel_rfl) (by kernel_rfl) (by kernel_rfl) (fun _ _ _ h => h) (Or.inl ⟨by rfl, ?_⟩) (by assumption) ?_
  · (intro w' hSw; (try dsimp only at hSw); go_simp; try rfl)
  simp only [Act.put, List.setIfInBounds_toArray, List.set_cons_zero, List.set_cons_succ]
  refine wpAnyH_take (i := 6) (oi := { dst := some 33, op := _, type := _, pos := _, after := _, guard := _ }) (v := vs) rfl (by kernel_rfl) (by kernel_rfl) (by kernel_rfl) (fun _ _ _ h => h) (Or.inl ⟨by rfl, ?_⟩) (by assumption) ?_
  · (intro w' hSw; (try dsimp only at hSw); go_simp; try rfl)
  simp only [Act.put, List.setIfInBounds_toArray, List.set_cons_zero, List.set_cons_succ]
  refine wpAnyH_take (i := 7) (oi := { dst := some 34, op := _, type := _, pos := _, after := _, guard := _ }) (v := .int .i64 e0) rfl (by kernel_rfl) (by kernel_rfl) (by kernel_rfl) (fun _ _ _ h => h) (Or.inl ⟨by rfl, ?_⟩) (by assumption) ?_
  · (intro w' hSw; (try dsimp only at hSw); go_simp; try rfl)
  simp only [Act.put, List.setIfInBounds_toArray, List.set_cons_zero, List.set_cons_succ]
  refine wpAnyH_take (i := 8) (oi := { dst := some 6, op := _, type := _, pos := _, after := _, guard := _ }) (v := vs) rfl (by kernel_rfl) (by kernel_rfl) (by kernel_rfl) (fun _ _ _ h => h) (Or.inl ⟨by rfl, ?_⟩) (by assumption) ?_
  · (intro w' hSw; (try dsimp only at hSw); go_simp; try rfl)
  simp only [Act.put, List.setIfInBounds_toArray, List.set_cons_zero, List.set_cons_succ]
  refine wpAnyH_take (i := 9) (oi := { dst := some 7, op := _, type := _, pos := _, after := _, guard := _ }) (v := .int .i64 e0) rfl (by kernel_rfl) (by kernel_rfl) (by kernel_rfl) (fun _ _ _ h => h) (Or.inl ⟨by rfl, ?_⟩) (by assumption) ?_
  · (intro w' hSw; (try dsimp only at hSw); go_simp; try rfl)
  simp only [Act.put, List.setIfInBounds_toArray, List.set_cons_zero, List.set_cons_succ]
  refine wpAnyH_done (by kernel_rfl) ?_ _
  have hbr : Below wz1.heap.size wz1 wr := bel_trans (by go_grown) (bel_trans hq0 (bel_trans hq1 hr))
  clear hS0 hS1 hS2 hSr hq0 hq1 hr hO0 hO1 bd g0 g1
  replace bw := bel_trans bw hbr
  replace p0 := p0.below hbr
  replace p1 := p1.below hbr
  clear hbr kS
  have hRt := hR.tops
  have cc := p0.cell 0
  simp only [List.getElem?_cons_zero] at cc
  go_wp2_with fail
  clear cc
  refine (kO0 _ (h0.below bw)).mono ?_
  rintro e wx0 ⟨rfl, hX0, hb⟩
  replace bw := bel_trans bw hb
  have bR := hb
  have hB0 : wr.heap.size + 3 ≤ wx0.heap.size := by
    obtain ⟨vs9, hv9, _⟩ := hX0
    have h9 : wr.heap.size + 3 < wx0.heap.size := (hv9.lt _ rfl).2
    omega
  have hRB : wr.heap.size ≤ wr.heap.size + 3 := by omega
  have hwr : w.heap.size ≤ wr.heap.size + 3 := by
    have := p1.lt
    omega
  have hP0 : w.heap.size < wr.heap.size + 3 := by
    have := p0.lt
    omega
  have hP1 : w.heap.size + 1 < wr.heap.size + 3 := by
    have := p1.lt
    omega
  generalize wr.heap.size + 3 = gg0 at *
  have hXt := hX0.top9
  clear hX0 hb
  have bA : Below wx0.heap.size wx0 (wx0.alloc (.cells #[.slice (some ⟨gg0, 0, none⟩) n0 n0] 31)) := by go_grown
  have pX0 : Blk (wx0.alloc (.cells #[.slice (some ⟨gg0, 0, none⟩) n0 n0] 31)) wx0.heap.size 31 [.slice (some ⟨gg0, 0, none⟩) n0 n0] := blkAt _ _ _ rfl
  replace hXt := hXt.below bA
  replace bw := bel_trans bw bA
  replace bR := bel_trans bR bA
  replace p0 := p0.below bR
  replace p1 := p1.below bR
  replace hR := hR.below bR
  clear bA bR
  have cc := p1.cell 0
  simp only [List.getElem?_cons_zero] at cc
  go_wp2_with fail
  clear cc
  generalize hWy : (wx0.alloc (.cells #[.slice (some ⟨gg0, 0, none⟩) n0 n0] 31)) = wy0 at *
  clear hWy
  generalize wx0.heap.size = T0 at *
  refine (kO1 _ (h1.below bw)).mono ?_
  rintro e wx1 ⟨rfl, hX1, hb⟩
  replace bw := bel_trans bw hb
  have bR := hb
  have hT01 : T0 < wy0.heap.size + 3 := by have := pX0.lt; omega
  have hB1 : wy0.heap.size + 3 ≤ wx1.heap.size := by
    obtain ⟨vs9, hv9, _⟩ := hX1
    have h9 : wy0.heap.size + 3 < wx1.heap.size := (hv9.lt _ rfl).2
    omega
  generalize wy0.heap.size + 3 = gg1 at *
  have hXu := hX1.top9
  clear hX1 hb
  have bA : Below wx1.heap.size wx1 (wx1.alloc (.cells #[.slice (some ⟨gg1, 0, none⟩) n1 n1] 31)) := by go_grown
  have pX1 : Blk (wx1.alloc (.cells #[.slice (some ⟨gg1, 0, none⟩) n1 n1] 31)) wx1.heap.size 31 [.slice (some ⟨gg1, 0, none⟩) n1 n1] := blkAt _ _ _ rfl
  replace hXu := hXu.below bA
  replace bw := bel_trans bw bA
  replace bR := bel_trans bR bA
  replace p0 := p0.below bR
  replace p1 := p1.below bR
  replace hR := hR.below bR
  replace hXt := hXt.below bR
  replace pX0 := pX0.below bR
  clear bA bR
  have u0 := pX0.cell 0
  have u1 := pX1.cell 0
  simp only [List.getElem?_cons_zero] at u0 u1
  have hc0 := hXt.own.codes (fitsC9 h0)
  have hc1 := hXu.own.codes (fitsC9 h1)
  go_wp2_with fail
  clear u0 u1
  generalize hWy : (wx1.alloc (.cells #[.slice (some ⟨gg1, 0, none⟩) n1 n1] 31)) = wi at *
  clear hWy
  generalize wx1.heap.size = T1 at *
  refine (kI _ _ _ _ _ _ _ hc0 hc1).mono ?_
  rintro e wj ⟨⟨vg, rfl, hG⟩, hb⟩
  have hTi : T1 < wi.heap.size := pX1.lt
  have hT0i : T0 < wi.heap.size := pX0.lt
  have hBj := hb.size
  replace bw := bel_trans bw hb
  replace p0 := p0.below hb
  replace p1 := p1.below hb
  replace hR := hR.below hb
  replace hXt := hXt.below hb
  replace hXu := hXu.below hb
  replace pX0 := pX0.below hb
  replace pX1 := pX1.below hb
  replace hc0 := hc0.below hb
  replace hc1 := hc1.below hb
  have hrj : wr.heap.size ≤ wi.heap.size := by omega
  clear hb
  generalize wi.heap.size = Bi at *
  have hne : (e0 != e0) = false := by simp
  go_wp2_with fail
  refine (eqL9 hG hR).mono ?_
  rintro e wk ⟨rfl, hb⟩
  replace bw := bel_trans bw hb
  replace hBj := Nat.le_trans hBj hb.size
  replace p0 := p0.below hb
  replace p1 := p1.below hb
  replace hR := hR.below hb
  replace hG := hG.below hb
  replace hXt := hXt.below hb
  replace hXu := hXu.below hb
  replace pX0 := pX0.below hb
  replace pX1 := pX1.below hb
  replace hc0 := hc0.below hb
  replace hc1 := hc1.below hb
  clear hb
  have u0 := pX0.cell 0
  have u1 := p0.cell 0
  simp only [List.getElem?_cons_zero] at u0 u1
  go_wp2_with fail
  have hP : Codes wk.drew a0 n0 c0 r0 := h0.below (bel_trans bw (by go_grown))
  have hV : Codes wk.drew (some ⟨gg0, 0, none⟩) n0 n0 r0 := hc0.below (by go_grown)
  have c8 : (fun w' : World => w'.cell? ⟨T0, 0, none⟩ = some (.slice (some ⟨gg0, 0, none⟩) n0 n0) ∧ w'.cell? ⟨w.heap.size, 0, none⟩ = some (.slice a0 n0 c0)) wk := ⟨u0, u1⟩
  clear u0 u1
  go_region_held3 (fun w' => w'.cell? ⟨T0, 0, none⟩ = some (.slice (some ⟨gg0, 0, none⟩) n0 n0) ∧ w'.cell? ⟨w.heap.size, 0, none⟩ = some (.slice a0 n0 c0)) (first | (exact c8) | (exact c9) | (exact ⟨cells_kept hl _ _ c9.1, cells_kept hl _ _ c9.2⟩))
    (first | (go_at_call 8; refine (kT0 _ hP).mono ?_; rintro e wu0 ⟨rfl, hOk, hk⟩; have hD := hV.below hk; have c9 := (show (fun w' : World => w'.cell? ⟨T0, 0, none⟩ = some (.slice (some ⟨gg0, 0, none⟩) n0 n0) ∧ w'.cell? ⟨w.heap.size, 0, none⟩ = some (.slice a0 n0 c0)) wu0 from ⟨cells_kept hk _ _ c8.1, cells_kept hk _ _ c8.2⟩)) | (go_at_call 11; refine (eqProgram_same _ _ _ _ _ r0 _ hD hOk.codes).mono ?_; rintro e wl0 ⟨rfl, hl⟩))
  have hb : Below wk.heap.size wk wl0 := bel_trans (by go_grown) (bel_trans hk hl)
  replace bw := bel_trans bw hb
  replace hBj := Nat.le_trans hBj hb.size
  replace p0 := p0.below hb
  replace p1 := p1.below hb
  replace hR := hR.below hb
  replace hG := hG.below hb
  replace hXt := hXt.below hb
  replace hXu := hXu.below hb
  replace pX0 := pX0.below hb
  replace pX1 := pX1.below hb
  replace hc0 := hc0.below hb
  replace hc1 := hc1.below hb
  clear hb hk hl hD hOk c8 c9 hP hV
  have u0 := pX1.cell 0
  have u1 := p1.cell 0
  simp only [List.getElem?_cons_zero] at u0 u1
  go_wp2_with fail
  have hP : Codes wl0.drew a1 n1 c1 r1 := h1.below (bel_trans bw (by go_grown))
  have hV : Codes wl0.drew (some ⟨gg1, 0, none⟩) n1 n1 r1 := hc1.below (by go_grown)
  have c8 : (fun w' : World => w'.cell? ⟨T1, 0, none⟩ = some (.slice (some ⟨gg1, 0, none⟩) n1 n1) ∧ w'.cell? ⟨w.heap.size + 1, 0, none⟩ = some (.slice a1 n1 c1)) wl0 := ⟨u0, u1⟩
  clear u0 u1
  go_region_held3 (fun w' => w'.cell? ⟨T1, 0, none⟩ = some (.slice (some ⟨gg1, 0, none⟩) n1 n1) ∧ w'.cell? ⟨w.heap.size + 1, 0, none⟩ = some (.slice a1 n1 c1)) (first | (exact c8) | (exact c9) | (exact ⟨cells_kept hl _ _ c9.1, cells_kept hl _ _ c9.2⟩))
    (first | (go_at_call 8; refine (kT1 _ hP).mono ?_; rintro e wu1 ⟨rfl, hOk, hk⟩; have hD := hV.below hk; have c9 := (show (fun w' : World => w'.cell? ⟨T1, 0, none⟩ = some (.slice (some ⟨gg1, 0, none⟩) n1 n1) ∧ w'.cell? ⟨w.heap.size + 1, 0, none⟩ = some (.slice a1 n1 c1)) wu1 from ⟨cells_kept hk _ _ c8.1, cells_kept hk _ _ c8.2⟩)) | (go_at_call 11; refine (eqProgram_same _ _ _ _ _ r1 _ hD hOk.codes).mono ?_; rintro e wl1 ⟨rfl, hl⟩))
  have hb : Below wl0.heap.size wl0 wl1 := bel_trans (by go_grown) (bel_trans hk hl)
  replace bw := bel_trans bw hb
  replace hBj := Nat.le_trans hBj hb.size
  replace p0 := p0.below hb
  replace p1 := p1.below hb
  replace hR := hR.below hb
  replace hG := hG.below hb
  replace hXt := hXt.below hb
  replace hXu := hXu.below hb
  replace pX0 := pX0.below hb
  replace pX1 := pX1.below hb
  replace hc0 := hc0.below hb
  replace hc1 := hc1.below hb
  clear hb hk hl hD hOk c8 c9 hP hV
  clear hc0 hc1
  have hsz1 := hBj
  have u0 := pX0.cell 0
  simp only [List.getElem?_cons_zero] at u0
  go_wp2_with fail
  clear u0
  refine (markProgram_mid gg0 T0 _ 1 r0 _ (by omega) (by omega) hcl0 hcj0 HRJ0.out (by omega) hXt).mono ?_
  rintro e m0 ⟨rfl, hm⟩
  have hgw : gg0 ≥ w.heap.size := by omega
  replace bw : Below w.heap.size w m0 := bw.trans (hm.1.mono (by omega))
  replace hBj := Nat.le_trans hBj hm.1.size
  replace p0 := p0.belowB hm.1 (by omega)
  replace p1 := p1.belowB hm.1 (by omega)
  replace hR := hR.under (fun x hx => Nat.lt_of_lt_of_le (hRt x hx) (by omega)) hm.1
  replace hG : OwnL9 m0 Bi vg z := hm.owns hG (by omega)
  replace pX1 := hm.blk pX1 (by omega)
  replace hXu := hXu.mid hm (by omega)
  clear hXt pX0
  clear hm hgw
  have u0 := pX1.cell 0
  simp only [List.getElem?_cons_zero] at u0
  go_wp2_with fail
  clear u0
  refine (markProgram_mid gg1 T1 _ (1 + (cntP r0 r0.length : Int)) r1 _ (by omega) (by omega) hcl1 hcj1 HRJ1.out (by omega) hXu).mono ?_
  rintro e m1 ⟨rfl, hm⟩
  have hgw : gg1 ≥ w.heap.size := by omega
  replace bw : Below w.heap.size w m1 := bw.trans (hm.1.mono (by omega))
  replace hBj := Nat.le_trans hBj hm.1.size
  replace p0 := p0.belowB hm.1 (by omega)
  replace p1 := p1.belowB hm.1 (by omega)
  replace hR := hR.under (fun x hx => Nat.lt_of_lt_of_le (hRt x hx) (by omega)) hm.1
  replace hG : OwnL9 m1 Bi vg z := hm.owns hG (by omega)
  replace pX1 := hm.blk pX1 (by omega)
  clear hm hgw
  clear hXu pX1
  have hkk : decide (1 + (cntP r0 r0.length : Int) + (cntP r1 r1.length : Int) < 0) = false := by simp; omega
  go_wp2_with fail
  refine (eqL9 hG hR).mono ?_
  rintro e m2 ⟨rfl, hb⟩
  replace bw := bel_trans bw hb
  replace hBj := Nat.le_trans hBj hb.size
  replace p0 := p0.below hb
  replace p1 := p1.below hb
  replace hR := hR.below hb
  replace hG := hG.below hb
  clear hb hkk
  go_wp2_with fail
  refine (markL9 hG hBj hz9).mono ?_
  rintro e m3 ⟨rfl, hH, hb⟩
  have hwB : w.heap.size ≤ Bi := by omega
  replace bw : Below w.heap.size w m3 := bw.trans (hb.mono hwB)
  replace p0 := p0.belowB hb (by omega)
  replace p1 := p1.belowB hb (by omega)
  replace hR := hR.under (fun x hx => Nat.lt_of_lt_of_le (hRt x hx) hrj) hb
  clear hb hG
  have hh0 : decide (1 + (z.length : Int) < 0) = false := by simp; omega
  have hhn : (1 + (z.length : Int) != 1 + (z.length : Int)) = false := by simp
  go_wp2_with fail
  refine (heldL9 hH hz9).mono ?_
  rintro e m4 ⟨rfl, hb⟩
  replace bw := bel_trans bw hb
  replace p0 := p0.below hb
  replace p1 := p1.below hb
  replace hR := hR.below hb
  replace hH := hH.below hb
  clear hb
  have g0 := p0.cell 0
  have g1 := p1.cell 0
  simp only [List.getElem?_cons_zero] at g0 g1
  go_wp2_with fail
  have bd : Below w.heap.size w m4.drew := bel_trans bw (by go_grown)
  refine wp_region_held_drew (S := (fun w' => w'.cell? ⟨w.heap.size, 0, none⟩ = some (.slice a0 n0 c0) ∧ w'.cell? ⟨w.heap.size + 1, 0, none⟩ = some (.slice a1 n1 c1))) (by kernel_rfl) ⟨g0, g1⟩ (fun hS0 => ?_)
  refine wpAnyH_take (i := 0) (oi := { dst := some 95, op := _, type := _, pos := _, after := _, guard := _ }) (v := .agg #[.slice a0 n0 c0]) rfl (by kernel_rfl) (by kernel_rfl) (by kernel_rfl) (fun _ _ _ h => h) (Or.inl ⟨by rfl, ?_⟩) (by assumption) ?_
  · (intro w' hSw; (try dsimp only at hSw); go_simp; try rfl)
  simp only [Act.put, List.setIfInBounds_toArray, List.set_cons_zero, List.set_cons_succ]
  refine wpAnyH_take (i := 2) (oi := { dst := some 97, op := _, type := _, pos := _, after := _, guard := _ }) (v := .agg #[.slice a1 n1 c1]) rfl (by kernel_rfl) (by kernel_rfl) (by kernel_rfl) (fun _ _ _ h => h) (Or.inl ⟨by rfl, ?_⟩) (by assumption) ?_
  · (intro w' hSw; (try dsimp only at hSw); go_simp; try rfl)
  simp only [Act.put, List.setIfInBounds_toArray, List.set_cons_zero, List.set_cons_succ]
  refine wpAnyH_ready (rs := [1]) (by kernel_rfl) (by simp) ?_
  refine AllReadyH.cons (o := { dst := some 96, op := _, type := _, pos := _, after := _, guard := _ }) rfl (fun K hK => ?_) AllReadyH.nil
  go_simp
  refine (kT0 _ (h0.below bd)).mono ?_
  rintro e wq0 ⟨rfl, hO0, hq0⟩
  go_wp2_with fail
  refine hK.out _ _ ?_ (fun hS1 => ?_)
  · exact ⟨cells_kept hq0 _ _ hS0.1, cells_kept hq0 _ _ hS0.2⟩
  clear hK
  refine wpAnyH_ready (rs := [3]) (by kernel_rfl) (by simp) ?_
  refine AllReadyH.cons (o := { dst := some 98, op := _, type := _, pos := _, after := _, guard := _ }) rfl (fun K hK => ?_) AllReadyH.nil
  go_simp
  refine (kT1 _ (h1.below (bel_trans bd hq0))).mono ?_
  rintro e wq1 ⟨rfl, hO1, hq1⟩
  go_wp2_with fail
  refine hK.out _ _ ?_ (fun hS2 => ?_)
  · exact ⟨cells_kept hq1 _ _ hS1.1, cells_kept hq1 _ _ hS1.2⟩
  clear hK
  refine wpAnyH_ready (rs := [4]) (by kernel_rfl) (by simp) ?_
  refine AllReadyH.cons (o := { dst := some 99, op := _, type := _, pos := _, after := _, guard := _ }) rfl (fun K hK => ?_) AllReadyH.nil
  go_simp
  refine (kI _ _ _ _ _ _ _ (hO0.codes.below hq1) hO1.codes).mono ?_
  rintro e wt ⟨⟨vh, rfl, hQ⟩, hr⟩
  go_wp2_with fail
  refine hK.out _ _ ?_ (fun hSr => ?_)
  · exact ⟨cells_kept hr _ _ hS2.1, cells_kept hr _ _ hS2.2⟩
  clear hK
  refine wpAnyH_take (i := 5) (oi := { dst := some 94, op := _, type := _, pos := _, after := _, guard := _ }) (v := .tuple #[vh, .int .i64 e0]) rfl (by kernel_rfl) (by kernel_rfl) (by kernel_rfl) (fun _ _ _ h => h) (Or.inl ⟨by rfl, ?_⟩) (by assumption) ?_
  · (intro w' hSw; (try dsimp only at hSw); go_simp; try rfl)
  simp only [Act.put, List.setIfInBounds_toArray, List.set_cons_zero, List.set_cons_succ]
  refine wpAnyH_take (i := 6) (oi := { dst := some 100, op := _, type := _, pos := _, after := _, guard := _ }) (v := vh) rfl (by kernel_rfl) (by kernel_rfl) (by kernel_rfl) (fun _ _ _ h => h) (Or.inl ⟨by rfl, ?_⟩) (by assumption) ?_
  · (intro w' hSw; (try dsimp only at hSw); go_simp; try rfl)
  simp only [Act.put, List.setIfInBounds_toArray, List.set_cons_zero, List.set_cons_succ]
  refine wpAnyH_take (i := 7) (oi := { dst := some 101, op := _, type := _, pos := _, after := _, guard := _ }) (v := .int .i64 e0) rfl (by kernel_rfl) (by kernel_rfl) (by kernel_rfl) (fun _ _ _ h => h) (Or.inl ⟨by rfl, ?_⟩) (by assumption) ?_
  · (intro w' hSw; (try dsimp only at hSw); go_simp; try rfl)
  simp only [Act.put, List.setIfInBounds_toArray, List.set_cons_zero, List.set_cons_succ]
  refine wpAnyH_take (i := 8) (oi := { dst := some 15, op := _, type := _, pos := _, after := _, guard := _ }) (v := vh) rfl (by kernel_rfl) (by kernel_rfl) (by kernel_rfl) (fun _ _ _ h => h) (Or.inl ⟨by rfl, ?_⟩) (by assumption) ?_
  · (intro w' hSw; (try dsimp only at hSw); go_simp; try rfl)
  simp only [Act.put, List.setIfInBounds_toArray, List.set_cons_zero, List.set_cons_succ]
  refine wpAnyH_take (i := 9) (oi := { dst := some 16, op := _, type := _, pos := _, after := _, guard := _ }) (v := .int .i64 e0) rfl (by kernel_rfl) (by kernel_rfl) (by kernel_rfl) (fun _ _ _ h => h) (Or.inl ⟨by rfl, ?_⟩) (by assumption) ?_
  · (intro w' hSw; (try dsimp only at hSw); go_simp; try rfl)
  simp only [Act.put, List.setIfInBounds_toArray, List.set_cons_zero, List.set_cons_succ]
  refine wpAnyH_done (by kernel_rfl) ?_ _
  have hbr : Below m4.heap.size m4 wt := bel_trans (by go_grown) (bel_trans hq0 (bel_trans hq1 hr))
  clear hS0 hS1 hS2 hSr hq0 hq1 hr hO0 hO1 bd g0 g1
  replace bw := bel_trans bw hbr
  replace hR := hR.below hbr
  replace hH := hH.below hbr
  clear hbr kI p0 p1
  go_wp2_with fail
  refine (eqL9 hQ hR).mono ?_
  rintro e m5 ⟨rfl, hb⟩
  replace bw := bel_trans bw hb
  replace hH := hH.below hb
  clear hb hQ hR
  go_wp2_with fail
  refine (heldL9 hH hz9).mono ?_
  rintro e m6 ⟨rfl, hb⟩
  replace bw := bel_trans bw hb
  clear hb hH
  go_wp2
  go_ret
  exact ⟨rfl, bw⟩
end Go.Proofs.Ytleiogcohkfgkaa
