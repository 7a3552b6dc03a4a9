
/-
  FnExactAgreeOn.
-/
import Derived.Test.YtleiogcohkfgkaaVerE
import Derived.Test.YtleiogcohkfgkaaRwL9
import Derived.Test.YtleiogcohkfgkaaMrkT
import Derived.Test.YtleiogcohkfgkaaSizeB
import Derived.Test.YtleiogcohkfgkaaProg4
import Derived.Test.YtleiogcohkfgkaaCopyG
import Derived.Deep.RegionHeld3
namespace Go.Proofs.Ytleiogcohkfgkaa
open Go.RowKit
set_option linter.unusedVariables false
set_option linter.unusedSimpArgs false

set_option maxHeartbeats 16000000 in
set_option maxRecDepth 100000 in
theorem fnExactAgreeOn_of (a0 : Option Addr) (n0 c0 : Nat) (r0 : List (List I3)) (a1 : Option Addr) (n1 c1 : Nat) (r1 : List (List I3)) (a2 : Option Addr) (n2 c2 : Nat) (z : List Int) (x0 : Bool) (x1 : Int) (w : World) (h0 : Codes w a0 n0 c0 r0) (h1 : Codes w a1 n1 c1 r1) (h2 : Ints .i64 w a2 n2 c2 z) (hm2 : n2 ≤ 9223372036854775807)
    (kS : n2 ≤ 1048576 → ∀ (a0 : Option Addr) (n0 c0 : Nat) (a1 : Option Addr) (n1 c1 : Nat) (fa : Option Addr) (c2 : Nat) (w : World), Codes w a0 n0 c0 r0 → Codes w a1 n1 c1 r1 → Ints .i64 w fa n2 c2 z → Calls Try.prog 18 #[.agg #[.slice a0 n0 c0], .agg #[.slice a1 n1 c1], .slice fa n2 c2] w fun e w' => e = .returned (.tuple #[.bool x0, .int .i64 x1]) ∧ Below w.heap.size w w')
    (kI : n2 ≤ 1048576 → ∀ (a0 : Option Addr) (n0 c0 : Nat) (a1 : Option Addr) (n1 c1 : Nat) (fa : Option Addr) (c2 : Nat) (w : World), Codes w a0 n0 c0 r0 → Codes w a1 n1 c1 r1 → Ints .i64 w fa n2 c2 z → Calls Try.prog 20 #[.agg #[.slice a0 n0 c0], .agg #[.slice a1 n1 c1], .slice fa n2 c2] w fun e w' => e = .returned (.tuple #[.bool x0, .int .i64 x1]) ∧ Below w.heap.size w w') :
    Calls Try.prog 5 #[.agg #[.slice a0 n0 c0], .agg #[.slice a1 n1 c1], .slice a2 n2 c2] w fun e w' => e = .returned (.bool true) ∧ Below w.heap.size w w' := by
  have kT0 := fun w h => toProgram_copy a0 n0 c0 r0 w h
  have kT1 := fun w h => toProgram_copy a1 n1 c1 r1 w h
  have bw : Below w.heap.size w ((w.alloc (.cells #[.slice a0 n0 c0] 24)).alloc (.cells #[.slice a1 n1 c1] 24)) := by go_grown
  by_cases b2 : 1048576 < n2
  · clear h0 h1 h2 kS kI
    go_enter Try.func5, Try.ntmps5
    go_wp2
    go_ret
    exact ⟨rfl, bw⟩
  have hn2 : n2 ≤ 1048576 := by omega
  replace kS := kS hn2
  replace kI := kI hn2
  clear b2 hm2
  have kL := fun W (hb : Below w.heap.size w W) => to8 a2 n2 c2 z W (h2.below hb) hn2
  have p0 : Blk ((w.alloc (.cells #[.slice a0 n0 c0] 24)).alloc (.cells #[.slice a1 n1 c1] 24)) w.heap.size 24 [.slice a0 n0 c0] := blkOld _ (blkAt _ _ _ rfl)
  have p1 : Blk ((w.alloc (.cells #[.slice a0 n0 c0] 24)).alloc (.cells #[.slice a1 n1 c1] 24)) (w.heap.size + 1) 24 [.slice a1 n1 c1] := blkAt _ _ _ (by simp)
  go_enter Try.func5, Try.ntmps5
  go_wp2_with fail
  generalize ((w.alloc (.cells #[.slice a0 n0 c0] 24)).alloc (.cells #[.slice a1 n1 c1] 24)) = W0 at *
  have hz := sizeLeft_or r0 1048576 (by omega)
  have hbd := size_bounds (rows := r0) (left := 1048576) (by omega)
  refine (szProgram_less a0 n0 c0 r0 1048576 _ (h0.below bw) (by omega) (by omega)).mono ?_
  rintro e wz0 ⟨rfl, hb⟩
  generalize sizeLeft 1048576 r0 = z0 at hz hbd
  replace bw := bel_trans bw hb
  replace p0 := p0.below hb
  replace p1 := p1.below hb
  clear hb
  rcases hz with rfl | ⟨y0, x0'⟩
  · clear hbd
    go_wp2
    go_ret
    exact ⟨rfl, bw⟩
  obtain ⟨hr, hr'⟩ := hbd y0 (by omega)
  have hlen : n0 ≤ 1048576 := by rw [← h0.1]; exact hr
  replace kT0 := fun w h => kT0 w h hlen (fun t _ => hr' t)
  clear hbd hr hr' hlen
  have hn0z : decide (z0 < 0) = false := by simp; omega
  have cc := p1.cell 0
  simp only [List.getElem?_cons_zero] at cc
  go_wp2_with fail
  clear cc
  have hz := sizeLeft_or r1 z0 (by omega)
  have hbd := size_bounds (rows := r1) (left := z0) (by omega)
  refine (szProgram_less a1 n1 c1 r1 z0 _ (h1.below bw) (by omega) (by omega)).mono ?_
  rintro e wz1 ⟨rfl, hb⟩
  generalize sizeLeft z0 r1 = z1 at hz hbd
  replace bw := bel_trans bw hb
  replace p0 := p0.below hb
  replace p1 := p1.below hb
  clear hb
  rcases hz with rfl | ⟨y1, x1'⟩
  · clear hbd
    go_wp2
    go_ret
    exact ⟨rfl, bw⟩
  obtain ⟨hr, hr'⟩ := hbd y1 (by omega)
  have hlen : n1 ≤ 1048576 := by rw [← h1.1]; exact hr
  replace kT1 := fun w h => kT1 w h hlen (fun t _ => hr' t)
  clear hbd hr hr' hlen
  have hn1z : decide (z1 < 0) = false := by simp; omega
  clear y0 x0' y1 x1'
  have g0 := p0.cell 0
  have g1 := p1.cell 0
  simp only [List.getElem?_cons_zero] at g0 g1
  go_wp2_with fail
  have bd : Below w.heap.size w wz1.drew := bel_trans bw (by go_grown)
  refine wp_region_held_drew (S := (fun w' => w'.cell? ⟨w.heap.size, 0, none⟩ = some (.slice a0 n0 c0) ∧ w'.cell? ⟨w.heap.size + 1, 0, none⟩ = some (.slice a1 n1 c1))) (by kernel_rfl) ⟨g0, g1⟩ (fun hS0 => ?_)
  refine wpAnyH_take (i := 0) (oi := { dst := some 29, op := _, type := _, pos := _, after := _, guard := _ }) (v := .agg #[.slice a0 n0 c0]) rfl (by kernel_rfl) (by kernel_rfl) (by kernel_rfl) (fun _ _ _ h => h) (Or.inl ⟨by rfl, ?_⟩) (by assumption) ?_
  · (intro w' hSw; (try dsimp only at hSw); go_simp; try rfl)
  simp only [Act.put, List.setIfInBounds_toArray, List.set_cons_zero, List.set_cons_succ]
  refine wpAnyH_take (i := 2) (oi := { dst := some 31, op := _, type := _, pos := _, after := _, guard := _ }) (v := .agg #[.slice a1 n1 c1]) rfl (by kernel_rfl) (by kernel_rfl) (by kernel_rfl) (fun _ _ _ h => h) (Or.inl ⟨by rfl, ?_⟩) (by assumption) ?_
  · (intro w' hSw; (try dsimp only at hSw); go_simp; try rfl)
  simp only [Act.put, List.setIfInBounds_toArray, List.set_cons_zero, List.set_cons_succ]
  refine wpAnyH_take (i := 4) (oi := { dst := some 33, op := _, type := _, pos := _, after := _, guard := _ }) (v := .slice a2 n2 c2) rfl (by kernel_rfl) (by kernel_rfl) (by kernel_rfl) (fun _ _ _ h => h) (Or.inl ⟨by rfl, ?_⟩) (by assumption) ?_
  · (intro w' hSw; (try dsimp only at hSw); go_simp; try rfl)
  simp only [Act.put, List.setIfInBounds_toArray, List.set_cons_zero, List.set_cons_succ]
  refine wpAnyH_ready (rs := [1]) (by kernel_rfl) (by simp) ?_
  refine AllReadyH.cons (o := { dst := some 30, op := _, type := _, pos := _, after := _, guard := _ }) rfl (fun K hK => ?_) AllReadyH.nil
  go_simp
  refine (kT0 _ (h0.below bd)).mono ?_
  rintro e wq0 ⟨rfl, hO0, hq0⟩
  go_wp2_with fail
  refine hK.out _ _ ?_ (fun hS1 => ?_)
  · exact ⟨cells_kept hq0 _ _ hS0.1, cells_kept hq0 _ _ hS0.2⟩
  clear hK
  refine wpAnyH_ready (rs := [3]) (by kernel_rfl) (by simp) ?_
  refine AllReadyH.cons (o := { dst := some 32, op := _, type := _, pos := _, after := _, guard := _ }) rfl (fun K hK => ?_) AllReadyH.nil
  go_simp
  refine (kT1 _ (h1.below (bel_trans bd hq0))).mono ?_
  rintro e wq1 ⟨rfl, hO1, hq1⟩
  go_wp2_with fail
  refine hK.out _ _ ?_ (fun hS2 => ?_)
  · exact ⟨cells_kept hq1 _ _ hS1.1, cells_kept hq1 _ _ hS1.2⟩
  clear hK
  refine wpAnyH_ready (rs := [5]) (by kernel_rfl) (by simp) ?_
  refine AllReadyH.cons (o := { dst := some 34, op := _, type := _, pos := _, after := _, guard := _ }) rfl (fun K hK => ?_) AllReadyH.nil
  go_simp
  refine (kL _ (bel_trans (bel_trans bd hq0) hq1)).mono ?_
  rintro e wq2 ⟨rfl, ⟨gL, hgL, hO2⟩, hq2⟩
  go_wp2_with fail
  refine hK.out _ _ ?_ (fun hS3 => ?_)
  · exact ⟨cells_kept hq2 _ _ hS2.1, cells_kept hq2 _ _ hS2.2⟩
  clear hK
  refine wpAnyH_ready (rs := [6]) (by kernel_rfl) (by simp) ?_
  refine AllReadyH.cons (o := { dst := some 35, op := _, type := _, pos := _, after := _, guard := _ }) rfl (fun K hK => ?_) AllReadyH.nil
  go_simp
  refine (kS _ _ _ _ _ _ _ _ _ ((hO0.codes.below hq1).below hq2) (hO1.codes.below hq2) (hgL ▸ ints8 hO2)).mono ?_
  rintro e wr ⟨rfl, hr⟩
  go_wp2_with fail
  refine hK.out _ _ ?_ (fun hSr => ?_)
  · exact ⟨cells_kept hr _ _ hS3.1, cells_kept hr _ _ hS3.2⟩
  clear hK
  refine wpAnyH_take (i := 7) (oi := { dst := some 28, op := _, type := _, pos := _, after := _, guard := _ }) (v := .tuple #[.bool x0, .int .i64 x1]) rfl (by kernel_rfl) (by kernel_rfl) (by kernel_rfl) (fun _ _ _ h => h) (Or.inl ⟨by rfl, ?_⟩) (by assumption) ?_
  · (intro w' hSw; (try dsimp only at hSw); go_simp; try rfl)
  simp only [Act.put, List.setIfInBounds_toArray, List.set_cons_zero, List.set_cons_succ]
  refine wpAnyH_take (i := 8) (oi := { dst := some 36, op := _, type := _, pos := _, after := _, guard := _ }) (v := .bool x0) rfl (by kernel_rfl) (by kernel_rfl) (by kernel_rfl) (fun _ _ _ h => h) (Or.inl ⟨by rfl, ?_⟩) (by assumption) ?_
  · (intro w' hSw; (try dsimp only at hSw); go_simp; try rfl)
  simp only [Act.put, List.setIfInBounds_toArray, List.set_cons_zero, List.set_cons_succ]
  refine wpAnyH_take (i := 9) (oi := { dst := some 37, op := _, type := _, pos := _, after := _, guard := _ }) (v := .int .i64 x1) rfl (by kernel_rfl) (by kernel_rfl) (by kernel_rfl) (fun _ _ _ h => h) (Or.inl ⟨by rfl, ?_⟩) (by assumption) ?_
  · (intro w' hSw; (try dsimp only at hSw); go_simp; try rfl)
  simp only [Act.put, List.setIfInBounds_toArray, List.set_cons_zero, List.set_cons_succ]
  refine wpAnyH_take (i := 10) (oi := { dst := some 8, op := _, type := _, pos := _, after := _, guard := _ }) (v := .bool x0) rfl (by kernel_rfl) (by kernel_rfl) (by kernel_rfl) (fun _ _ _ h => h) (Or.inl ⟨by rfl, ?_⟩) (by assumption) ?_
  · (intro w' hSw; (try dsimp only at hSw); go_simp; try rfl)
  simp only [Act.put, List.setIfInBounds_toArray, List.set_cons_zero, List.set_cons_succ]
  refine wpAnyH_take (i := 11) (oi := { dst := some 9, op := _, type := _, pos := _, after := _, guard := _ }) (v := .int .i64 x1) rfl (by kernel_rfl) (by kernel_rfl) (by kernel_rfl) (fun _ _ _ h => h) (Or.inl ⟨by rfl, ?_⟩) (by assumption) ?_
  · (intro w' hSw; (try dsimp only at hSw); go_simp; try rfl)
  simp only [Act.put, List.setIfInBounds_toArray, List.set_cons_zero, List.set_cons_succ]
  refine wpAnyH_done (by kernel_rfl) ?_ _
  have hbr : Below wz1.heap.size wz1 wr := bel_trans (by go_grown) (bel_trans hq0 (bel_trans hq1 (bel_trans hq2 hr)))
  clear hS0 hS1 hS2 hS3 hSr hq0 hq1 hq2 hr hO0 hO1 hO2 hgL bd g0 g1
  replace bw := bel_trans bw hbr
  replace p0 := p0.below hbr
  replace p1 := p1.below hbr
  clear hbr kS
  have cc := p0.cell 0
  simp only [List.getElem?_cons_zero] at cc
  go_wp2_with fail
  clear cc
  refine (kT0 _ (h0.below bw)).mono ?_
  rintro e wx0 ⟨rfl, hO, hb⟩
  have hc0 := hO.codes
  clear hO
  generalize wr.heap.size + 3 = gg0 at *
  have bA : Below wx0.heap.size wx0 (wx0.alloc (.cells #[.slice (some ⟨gg0, 0, none⟩) n0 n0] 31)) := by go_grown
  have pX0 : Blk (wx0.alloc (.cells #[.slice (some ⟨gg0, 0, none⟩) n0 n0] 31)) wx0.heap.size 31 [.slice (some ⟨gg0, 0, none⟩) n0 n0] := blkAt _ _ _ rfl
  replace hc0 := hc0.below bA
  have bR := bel_trans hb bA
  replace bw := bel_trans bw bR
  replace p0 := p0.below bR
  replace p1 := p1.below bR
  skip
  skip
  clear bA bR hb
  have cc := p1.cell 0
  simp only [List.getElem?_cons_zero] at cc
  go_wp2_with fail
  clear cc
  generalize hWy : (wx0.alloc (.cells #[.slice (some ⟨gg0, 0, none⟩) n0 n0] 31)) = wy0 at *
  clear hWy
  generalize wx0.heap.size = T0 at *
  refine (kT1 _ (h1.below bw)).mono ?_
  rintro e wx1 ⟨rfl, hO, hb⟩
  have hc1 := hO.codes
  clear hO
  generalize wy0.heap.size + 3 = gg1 at *
  have bA : Below wx1.heap.size wx1 (wx1.alloc (.cells #[.slice (some ⟨gg1, 0, none⟩) n1 n1] 31)) := by go_grown
  have pX1 : Blk (wx1.alloc (.cells #[.slice (some ⟨gg1, 0, none⟩) n1 n1] 31)) wx1.heap.size 31 [.slice (some ⟨gg1, 0, none⟩) n1 n1] := blkAt _ _ _ rfl
  replace hc1 := hc1.below bA
  have bR := bel_trans hb bA
  replace bw := bel_trans bw bR
  replace p0 := p0.below bR
  replace p1 := p1.below bR
  replace hc0 := hc0.below bR
  replace pX0 := pX0.below bR
  clear bA bR hb
  go_wp2_with fail
  generalize hWy : (wx1.alloc (.cells #[.slice (some ⟨gg1, 0, none⟩) n1 n1] 31)) = wi at *
  clear hWy
  generalize wx1.heap.size = T1 at *
  refine (kL _ bw).mono ?_
  rintro e wi2 ⟨rfl, ⟨gL, hgL, hO2⟩, hb⟩
  have hI := ints8 hO2
  rw [← hgL]
  clear hgL hO2
  replace bw := bel_trans bw hb
  replace p0 := p0.below hb
  replace p1 := p1.below hb
  replace hc0 := hc0.below hb
  replace hc1 := hc1.below hb
  replace pX0 := pX0.below hb
  replace pX1 := pX1.below hb
  clear hb
  have u0 := pX0.cell 0
  have u1 := pX1.cell 0
  simp only [List.getElem?_cons_zero] at u0 u1
  go_wp2_with fail
  clear u0 u1
  refine (kI _ _ _ _ _ _ _ _ _ hc0 hc1 hI).mono ?_
  rintro e wk ⟨rfl, hb⟩
  replace bw := bel_trans bw hb
  replace p0 := p0.below hb
  replace p1 := p1.below hb
  replace hc0 := hc0.below hb
  replace hc1 := hc1.below hb
  replace hI := hI.below hb
  replace pX0 := pX0.below hb
  replace pX1 := pX1.below hb
  clear hb kI
  have hne : (x0 != x0) = false := by simp
  have hne1 : (x1 != x1) = false := by simp
  have u0 := pX0.cell 0
  have u1 := p0.cell 0
  simp only [List.getElem?_cons_zero] at u0 u1
  go_wp2_with fail
  have hP : Codes wk.drew a0 n0 c0 r0 := h0.below (bel_trans bw (by go_grown))
  have hV : Codes wk.drew (some ⟨gg0, 0, none⟩) n0 n0 r0 := hc0.below (by go_grown)
  have c8 : (fun w' : World => w'.cell? ⟨T0, 0, none⟩ = some (.slice (some ⟨gg0, 0, none⟩) n0 n0) ∧ w'.cell? ⟨w.heap.size, 0, none⟩ = some (.slice a0 n0 c0)) wk := ⟨u0, u1⟩
  clear u0 u1
  go_region_held3 (fun w' => w'.cell? ⟨T0, 0, none⟩ = some (.slice (some ⟨gg0, 0, none⟩) n0 n0) ∧ w'.cell? ⟨w.heap.size, 0, none⟩ = some (.slice a0 n0 c0)) (first | (exact c8) | (exact c9) | (exact ⟨cells_kept hl _ _ c9.1, cells_kept hl _ _ c9.2⟩))
    (first | (go_at_call 8; refine (kT0 _ hP).mono ?_; rintro e wu0 ⟨rfl, hOk, hk⟩; have hD := hV.below hk; have c9 := (show (fun w' : World => w'.cell? ⟨T0, 0, none⟩ = some (.slice (some ⟨gg0, 0, none⟩) n0 n0) ∧ w'.cell? ⟨w.heap.size, 0, none⟩ = some (.slice a0 n0 c0)) wu0 from ⟨cells_kept hk _ _ c8.1, cells_kept hk _ _ c8.2⟩)) | (go_at_call 11; refine (eqProgram_same _ _ _ _ _ r0 _ hD hOk.codes).mono ?_; rintro e wl0 ⟨rfl, hl⟩))
  have hb : Below wk.heap.size wk wl0 := bel_trans (by go_grown) (bel_trans hk hl)
  replace bw := bel_trans bw hb
  replace p0 := p0.below hb
  replace p1 := p1.below hb
  replace hI := hI.below hb
  replace pX0 := pX0.below hb
  replace pX1 := pX1.below hb
  replace hc0 := hc0.below hb
  replace hc1 := hc1.below hb
  clear hb hk hl hD hOk c8 c9 hP hV
  have u0 := pX1.cell 0
  have u1 := p1.cell 0
  simp only [List.getElem?_cons_zero] at u0 u1
  go_wp2_with fail
  have hP : Codes wl0.drew a1 n1 c1 r1 := h1.below (bel_trans bw (by go_grown))
  have hV : Codes wl0.drew (some ⟨gg1, 0, none⟩) n1 n1 r1 := hc1.below (by go_grown)
  have c8 : (fun w' : World => w'.cell? ⟨T1, 0, none⟩ = some (.slice (some ⟨gg1, 0, none⟩) n1 n1) ∧ w'.cell? ⟨w.heap.size + 1, 0, none⟩ = some (.slice a1 n1 c1)) wl0 := ⟨u0, u1⟩
  clear u0 u1
  go_region_held3 (fun w' => w'.cell? ⟨T1, 0, none⟩ = some (.slice (some ⟨gg1, 0, none⟩) n1 n1) ∧ w'.cell? ⟨w.heap.size + 1, 0, none⟩ = some (.slice a1 n1 c1)) (first | (exact c8) | (exact c9) | (exact ⟨cells_kept hl _ _ c9.1, cells_kept hl _ _ c9.2⟩))
    (first | (go_at_call 8; refine (kT1 _ hP).mono ?_; rintro e wu1 ⟨rfl, hOk, hk⟩; have hD := hV.below hk; have c9 := (show (fun w' : World => w'.cell? ⟨T1, 0, none⟩ = some (.slice (some ⟨gg1, 0, none⟩) n1 n1) ∧ w'.cell? ⟨w.heap.size + 1, 0, none⟩ = some (.slice a1 n1 c1)) wu1 from ⟨cells_kept hk _ _ c8.1, cells_kept hk _ _ c8.2⟩)) | (go_at_call 11; refine (eqProgram_same _ _ _ _ _ r1 _ hD hOk.codes).mono ?_; rintro e wl1 ⟨rfl, hl⟩))
  have hb : Below wl0.heap.size wl0 wl1 := bel_trans (by go_grown) (bel_trans hk hl)
  replace bw := bel_trans bw hb
  replace p0 := p0.below hb
  replace p1 := p1.below hb
  replace hI := hI.below hb
  replace pX0 := pX0.below hb
  replace pX1 := pX1.below hb
  replace hc0 := hc0.below hb
  replace hc1 := hc1.below hb
  clear hb hk hl hD hOk c8 c9 hP hV
  clear hc0 hc1 p0 p1 pX0 pX1
  go_wp2_with fail
  refine (kL _ bw).mono ?_
  rintro e m1 ⟨rfl, ⟨gM, hgM, hO2⟩, hb⟩
  have hJ := ints8 hO2
  rw [← hgM]
  clear hgM hO2
  replace bw := bel_trans bw hb
  replace hI := hI.below hb
  clear hb
  go_wp2_with fail
  refine (eq8 _ _ _ _ _ _ _ hI hJ).mono ?_
  rintro e m2 ⟨rfl, hb⟩
  replace bw := bel_trans bw hb
  clear hb
  go_wp2
  go_ret
  exact ⟨rfl, bw⟩

theorem fnExactAgreeOn_walk (a0 : Option Addr) (n0 c0 : Nat) (r0 : List (List I3)) (a1 : Option Addr) (n1 c1 : Nat) (r1 : List (List I3)) (a2 : Option Addr) (n2 c2 : Nat) (z2 : List Int) (w : World) (h0 : Codes w a0 n0 c0 r0) (h1 : Codes w a1 n1 c1 r1) (h2 : IsRow .i64 w a2 n2 c2 z2) :
    Calls Try.prog 5 #[.agg #[.slice a0 n0 c0], .agg #[.slice a1 n1 c1], .slice a2 n2 c2] w fun e w' => e = .returned (.bool true) ∧ Below w.heap.size w w' := by
  have i2 := Ints.of_isRow h2
  have f2 := isRow_wfs h2
  have hm := Nat.le_trans i2.2.1 i2.2.2.1
  unfold maxLen at hm
  exact fnExactAgreeOn_of a0 n0 c0 r0 a1 n1 c1 r1 a2 n2 c2 (z2.take n2) (agrB r0 r1 (z2.take n2)) (agrC r0 r1 (z2.take n2)) w h0 h1 i2 (by omega)
    (fun hn a n c a' n' c' fa fc w h h' hf => specAgreeOn_is a n c r0 a' n' c' r1 fa n2 fc (z2.take n2) w h h' hf f2 hn)
    (fun hn a n c a' n' c' fa fc w h h' hf => implAgreeOn_is a n c r0 a' n' c' r1 fa n2 fc (z2.take n2) w h h' hf f2 hn)
end Go.Proofs.Ytleiogcohkfgkaa
