/-
  FnProgram, part 49 of 50 (SameI, RowBelow).
-/
import Derived.Test.YtiokkoaalakakaaGreatDoorJ47
import Derived.Test.YtiokkoaalakakaaGreatDoorJ48
import Derived.Test.YtiokkoaalakakaaGreatDoorJ01

/-
  impl.SameProgram: both are right, and one.
-/
namespace Go.Proofs.YtiokkoaalakakaaGreatDoor
open Go.RowKit

set_option maxHeartbeats 4000000 in
set_option maxRecDepth 100000 in
theorem implSame_ok (a : Option Addr) (len cap : Nat) (ra : List (List I3)) (b : Option Addr) (len' cap' : Nat) (rb : List (List I3)) (w : World) (ha : Codes w a len cap ra) (hb : Codes w b len' cap' rb) (hoA : progOk ra = true) (hoB : progOk rb = true) :
    Calls Tryz.prog 15 #[.agg #[.slice a len cap], .agg #[.slice b len' cap']] w fun e w' => e = .returned (.bool (decide (ra = rb))) ∧ Below w.heap.size w w' := by
  have kA := implProgramOK_is a len cap ra
  have kB := implProgramOK_is b len' cap' rb
  rw [hoA] at kA
  rw [hoB] at kB
  have lA := (progOk_parts hoA).1
  have lB := (progOk_parts hoB).1
  clear hoA hoB
  go_enter Tryz.func15, Tryz.ntmps15
  go_wp2_with fail
  refine (kA _ (ha.below (by go_grown))).mono ?_
  rintro e w1 ⟨rfl, hb1⟩
  have cA : w1.cell? ⟨w.heap.size, 0, none⟩ = some (.slice a len cap) := by rw [hb1.cell (by simp; omega)]; simp [go_sem]
  have cB : w1.cell? ⟨w.heap.size + 1, 0, none⟩ = some (.slice b len' cap') := by rw [hb1.cell (by simp)]; simp [go_sem]
  have b1 : Below w.heap.size w w1 := bel_trans (by go_grown) hb1
  clear hb1 kA
  go_wp2_with fail
  refine (kB _ (hb.below b1)).mono ?_
  rintro e w2 ⟨rfl, hb2⟩
  have b2 := bel_trans b1 hb2
  replace cA := cells_kept hb2 _ _ cA
  replace cB := cells_kept hb2 _ _ cB
  clear hb2 kB b1
  obtain ⟨hl, hlc, hcm, hcase⟩ := ha
  obtain rfl : len = 3 := by omega
  obtain ⟨hl', hlc', hcm', hcase'⟩ := hb
  obtain rfl : len' = 3 := by omega
  unfold maxLen at hcm hcm'
  rcases hcase with h0 | ⟨ba, oa, rfl, hblt, hcell⟩
  · omega
  rcases hcase' with h0 | ⟨bb, ob, rfl, hblt', hcell'⟩
  · omega
  go_wp2
  go_loopw [17] (fun si wr => ∃ (k : Nat), k ≤ 3 ∧ si = .int .i64 k ∧ Hid (ra.take k = rb.take k) ∧ wr.cell? ⟨w.heap.size, 0, none⟩ = some (.slice (some ⟨ba, oa, none⟩) 3 cap) ∧ wr.cell? ⟨w.heap.size + 1, 0, none⟩ = some (.slice (some ⟨bb, ob, none⟩) 3 cap') ∧ Below w.heap.size w wr) (fun si _ => 3 - (intOf si).toNat)
  case atStart => exact ⟨0, by omega, rfl, by simp [Hid], cA, cB, b2⟩
  case round =>
    clear cA cB b2
    obtain ⟨k, hk, rfl, hH, cA, cB, hbel⟩ := hrel
    by_cases hlt : k < 3
    · have hlt2 : (k : Int) < 3 := by omega
      have hk0 : (0 : Int) ≤ (k : Int) := by omega
      obtain ⟨a1, l1, c1, hc, hI⟩ := hcell k hlt
      obtain ⟨a2, l2, c2, hc', hI'⟩ := hcell' k hlt
      rw [← hbel.cell (p := ⟨ba, _, none⟩) hblt] at hc
      rw [← hbel.cell (p := ⟨bb, _, none⟩) hblt'] at hc'
      have hJ := (hI.below hbel).below (w' := wr.drew) (by go_grown)
      have hJ' := (hI'.below hbel).below (w' := wr.drew) (by go_grown)
      have hxg : Hid (ra.getD k [] = ra[k]'(by omega) ∧ rb.getD k [] = rb[k]'(by omega)) := ⟨by simp [List.getD, lA, hlt], by simp [List.getD, lB, hlt]⟩
      have kE := equal_any a1 a2 l1 l2 c1 c2 (ra.getD k []) (rb.getD k []) wr.drew hJ hJ'
      clear hcell hcell' hI hI' hJ hJ'
      by_cases hxy : ra.getD k [] = rb.getD k []
      · have hH2 : Hid (ra.take (k + 1) = rb.take (k + 1)) := by
          rw [Hid, List.take_succ_eq_append_getElem (by omega), List.take_succ_eq_append_getElem (by omega), hH.out, ← hxg.out.1, ← hxg.out.2, hxy]
        rw [decide_eq_true hxy] at kE
        clear hxg hxy hH
        go_wp2_with fail
        go_region_held3 (fun w' => w'.cell? ⟨w.heap.size, 0, none⟩ = some (.slice (some ⟨ba, oa, none⟩) 3 cap) ∧ w'.cell? ⟨w.heap.size + 1, 0, none⟩ = some (.slice (some ⟨bb, ob, none⟩) 3 cap') ∧ w'.cell? ⟨ba, oa + k, none⟩ = some (.slice a1 l1 c1) ∧ w'.cell? ⟨bb, ob + k, none⟩ = some (.slice a2 l2 c2)) (first | (exact ⟨cA, cB, hc, hc'⟩) | (exact ⟨cA3, cB3, hc3, hc4⟩))
          (first | (go_at_call 33; refine kE.mono ?_; rintro e w3 ⟨rfl, hb3⟩; have cA3 := cells_kept hb3 _ _ cA; have cB3 := cells_kept hb3 _ _ cB; have hc3 := cells_kept hb3 _ _ hc; have hc4 := cells_kept hb3 _ _ hc'))
        have b3 : Below w.heap.size w w3 := bel_trans hbel (bel_trans (by go_grown) hb3)
        clear kE
        go_wp2
        go_roundw
        case rel => exact ⟨k + 1, by omega, by go_num, hH2, cA3, cB3, b3⟩
        case measure => simp [intOf]; omega
      · have hff : Hid (decide (ra = rb) = false) := by
          rw [Hid, decide_eq_false_iff_not]
          intro h
          subst h
          exact hxy rfl
        rw [decide_eq_false hxy] at kE
        clear hxg hxy hH
        go_wp2_with fail
        go_region_held3 (fun w' => w'.cell? ⟨w.heap.size, 0, none⟩ = some (.slice (some ⟨ba, oa, none⟩) 3 cap) ∧ w'.cell? ⟨w.heap.size + 1, 0, none⟩ = some (.slice (some ⟨bb, ob, none⟩) 3 cap') ∧ w'.cell? ⟨ba, oa + k, none⟩ = some (.slice a1 l1 c1) ∧ w'.cell? ⟨bb, ob + k, none⟩ = some (.slice a2 l2 c2)) (first | (exact ⟨cA, cB, hc, hc'⟩) | (exact ⟨cA3, cB3, hc3, hc4⟩))
          (first | (go_at_call 33; refine kE.mono ?_; rintro e w3 ⟨rfl, hb3⟩; have cA3 := cells_kept hb3 _ _ cA; have cB3 := cells_kept hb3 _ _ cB; have hc3 := cells_kept hb3 _ _ hc; have hc4 := cells_kept hb3 _ _ hc'))
        have b3 : Below w.heap.size w w3 := bel_trans hbel (bel_trans (by go_grown) hb3)
        clear kE
        go_wp2
        go_ret
        exact ⟨by rw [hff.out]; rfl, b3⟩
    · obtain rfl : k = 3 := by omega
      have hff : Hid (decide (ra = rb) = true) := by
        have := hH.out
        rw [List.take_of_length_le (by omega), List.take_of_length_le (by omega)] at this
        rw [Hid]
        simpa using this
      clear hcell hcell' hH
      go_wp2
      go_ret
      exact ⟨by rw [hff.out]; rfl, hbel⟩

set_option maxHeartbeats 1000000 in
set_option maxRecDepth 100000 in
theorem implSame_bad (a : Option Addr) (len cap : Nat) (ra : List (List I3)) (b : Option Addr) (len' cap' : Nat) (rb : List (List I3)) (w : World) (ha : Codes w a len cap ra) (hb : Codes w b len' cap' rb) (ho : (progOk ra && progOk rb) = false) :
    Calls Tryz.prog 15 #[.agg #[.slice a len cap], .agg #[.slice b len' cap']] w fun e w' => e = .returned (.bool false) ∧ Below w.heap.size w w' := by
  have kA := implProgramOK_is a len cap ra
  have kB := implProgramOK_is b len' cap' rb
  go_enter Tryz.func15, Tryz.ntmps15
  go_wp2_with fail
  refine (kA _ (ha.below (by go_grown))).mono ?_
  rintro e w1 ⟨rfl, hb1⟩
  have cB : w1.cell? ⟨w.heap.size + 1, 0, none⟩ = some (.slice b len' cap') := by rw [hb1.cell (by simp)]; simp [go_sem]
  have b1 : Below w.heap.size w w1 := bel_trans (by go_grown) hb1
  clear hb1 kA ha
  cases hoA : progOk ra
  · clear kB hb ho hoA
    go_wp2
    go_ret
    exact ⟨rfl, b1⟩
  · rw [hoA, Bool.true_and] at ho
    rw [ho] at kB
    clear hoA ho
    go_wp2_with fail
    refine (kB _ (hb.below b1)).mono ?_
    rintro e w2 ⟨rfl, hb2⟩
    have b2 := bel_trans b1 hb2
    clear hb2 kB b1 hb cB
    go_wp2
    go_ret
    exact ⟨rfl, b2⟩

theorem implSame_is (a : Option Addr) (len cap : Nat) (ra : List (List I3)) (b : Option Addr) (len' cap' : Nat) (rb : List (List I3)) (w : World) (ha : Codes w a len cap ra) (hb : Codes w b len' cap' rb) :
    Calls Tryz.prog 15 #[.agg #[.slice a len cap], .agg #[.slice b len' cap']] w fun e w' => e = .returned (.bool (sameP ra rb)) ∧ Below w.heap.size w w' := by
  unfold sameP
  cases ho : (progOk ra && progOk rb)
  · simpa using implSame_bad a len cap ra b len' cap' rb w ha hb ho
  · rw [Bool.and_eq_true] at ho
    simpa using implSame_ok a len cap ra b len' cap' rb w ha hb ho.1 ho.2
end Go.Proofs.YtiokkoaalakakaaGreatDoor


/-
  What the frame tells of a slice that came in holds in every later world that keeps what was there.
-/
namespace Go.Proofs.YtiokkoaalakakaaGreatDoor
open Go.RowKit

theorem IsRow.below {k : IntKind} {w w' : World} {a : Option Addr} {len cap : Nat} {zs : List Int} (h : IsRow k w a len cap zs) (hb : Below w.heap.size w w') : IsRow k w' a len cap zs := by
  rcases h with h | ⟨x, h1, h2, h3, h4, h5, h6⟩
  · exact .inl h
  · refine .inr ⟨x, h1, h2, h3, h4, fun i hi => ?_, h6⟩
    have hc := h5 i hi
    have hlt : (x.add i).block < w.heap.size := by
      rcases Nat.lt_or_ge (x.add i).block w.heap.size with h' | h'
      · exact h'
      · simp [World.cell?, Array.getElem?_eq_none h'] at hc
    rw [hb.cell hlt]
    exact hc
theorem IsRow.len_le {k : IntKind} {w : World} {a : Option Addr} {len cap : Nat} {zs : List Int} (h : IsRow k w a len cap zs) : len ≤ maxLen := by
  rcases h with ⟨_, rfl, _, _⟩ | ⟨x, h1, h2, h3, _⟩
  · omega
  · omega
theorem IsRow.drew {k : IntKind} {w : World} {a : Option Addr} {len cap : Nat} {zs : List Int} (h : IsRow k w a len cap zs) (d : Nat) : IsRow k (w.drewN d) a len cap zs := h
end Go.Proofs.YtiokkoaalakakaaGreatDoor
