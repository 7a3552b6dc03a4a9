/-
  FnExactProgramOK: both tell the same programs right; the argument is left as it was.
-/
import Derived.Test.YtiokkoaalakakaaCodeS
namespace Go.Proofs.Ytiokkoaalakakaa
open Go.RowKit

theorem lessAll_each : ∀ (rows : List (List I3)) (left : Int), 0 ≤ lessAll left rows → 0 ≤ left → ∀ r ∈ rows, (r.length : Int) ≤ left
  | [], _, _, _, r, hr => by cases hr
  | x :: xs, left, h, h0, r, hr => by
    unfold lessAll at h
    split at h
    · omega
    · rcases List.mem_cons.1 hr with rfl | hr
      · omega
      · have := lessAll_each xs (left - x.length) h (by omega) r hr
        omega

theorem getD_length_le {rows : List (List I3)} {n : Nat} (h : ∀ r ∈ rows, r.length ≤ n) (t : Nat) : (rows.getD t []).length ≤ n := by
  by_cases ht : t < rows.length
  · have : rows.getD t [] = rows[t] := by simp [List.getD, ht]
    rw [this]
    exact h _ (List.getElem_mem ht)
  · have : rows.getD t [] = [] := by simp [List.getD, List.getElem?_eq_none (Nat.le_of_not_lt ht)]
    rw [this]
    exact Nat.zero_le _

/-- A program that is not too large has not too many rows, and none that is too long. -/
theorem size_bounds {rows : List (List I3)} {left : Int} (hm : left ≤ 1048576) (h : 0 ≤ sizeLeft left rows) (h0 : 0 ≤ left) : rows.length ≤ 1048576 ∧ ∀ t, (rows.getD t []).length ≤ 1048576 := by
  unfold sizeLeft at h
  split at h
  · omega
  · refine ⟨by omega, fun t => getD_length_le (fun r hr => ?_) t⟩
    have := lessAll_each rows _ h (by omega) r hr
    omega

set_option maxHeartbeats 2000000 in
set_option maxRecDepth 100000 in
theorem fnExactProgramOK_walk (a : Option Addr) (len cap : Nat) (rows : List (List I3)) (w : World) (h : Codes w a len cap rows) : Calls Try.prog 4 #[.agg #[.slice a len cap]] w fun e w' => e = .returned (.bool true) ∧ Below w.heap.size w w' := by
  have hsz := sizeLeft_or rows 1048576 (by omega)
  have hbd := size_bounds (rows := rows) (left := 1048576) (by omega)
  go_enter Try.func4, Try.ntmps4
  go_wp2_with fail
  refine (szProgram_less a len cap rows 1048576 _ (h.below (by go_grown)) (by omega) (by omega)).mono ?_
  rintro e w1 ⟨rfl, hb1⟩
  have cP : w1.cell? ⟨w.heap.size, 0, none⟩ = some (.slice a len cap) := by rw [hb1.cell (by simp)]; simp [go_sem]
  have b1 : Below w.heap.size w w1 := bel_trans (by go_grown) hb1
  clear hb1
  generalize sizeLeft 1048576 rows = n at hsz hbd
  rcases hsz with rfl | ⟨hn0, hn1⟩
  · clear hbd
    go_wp2
    go_ret
    exact ⟨rfl, b1⟩
  · obtain ⟨hr, hr'⟩ := hbd hn0 (by omega)
    clear hbd
    have hlen : len ≤ 1048576 := by rw [← h.1]; exact hr
    have hn : decide (n < 0) = false := by simp; omega
    go_wp2_with fail
    refine (toProgram_copy a len cap rows _ (h.below b1) hlen (fun t _ => hr' t)).mono ?_
    rintro e w2 ⟨rfl, hC2, hb2⟩
    have b2 := bel_trans b1 hb2
    replace cP := cells_kept hb2 _ _ cP
    clear hb2 b1
    go_wp2_with fail
    refine (specProgramOK_is _ _ _ rows _ hC2.codes).mono ?_
    rintro e w3 ⟨rfl, hb3⟩
    have b3 := bel_trans b2 hb3
    replace cP := cells_kept hb3 _ _ cP
    clear hb3 b2 hC2
    go_wp2_with fail
    refine (toProgram_copy a len cap rows _ (h.below b3) hlen (fun t _ => hr' t)).mono ?_
    rintro e w4 ⟨rfl, hC4, hb4⟩
    have b4 := bel_trans b3 hb4
    replace cP := cells_kept hb4 _ _ cP
    replace hC4 := hC4.codes
    clear hb4 b3
    generalize w3.heap.size + 3 = g at hC4
    have k5 := implProgramOK_is (some ⟨g, 0, none⟩) len len rows
    generalize progOk rows = p at k5
    have hne : (p != p) = false := by simp
    go_wp2_with fail
    refine (k5 _ (hC4.below (by go_grown))).mono ?_
    rintro e w5 ⟨rfl, hb5⟩
    have cX : w5.cell? ⟨w4.heap.size, 0, none⟩ = some (.slice (some ⟨g, 0, none⟩) len len) := by rw [hb5.cell (by simp)]; simp [go_sem]
    have hb5' : Below w4.heap.size w4 w5 := bel_trans (by go_grown) hb5
    have b5 := bel_trans b4 hb5'
    replace cP := cells_kept hb5' _ _ cP
    replace hC4 := hC4.below hb5'
    clear hb5 hb5' b4 k5
    generalize w4.heap.size = X at cX
    go_wp2_with fail
    have hA : Codes w5.drew a len cap rows := (h.below b5).below (by go_grown)
    have hX : Codes w5.drew (some ⟨g, 0, none⟩) len len rows := hC4.below (by go_grown)
    clear hC4
    go_region_held3 (fun w' => w'.cell? ⟨X, 0, none⟩ = some (.slice (some ⟨g, 0, none⟩) len len) ∧ w'.cell? ⟨w.heap.size, 0, none⟩ = some (.slice a len cap)) (first | (exact ⟨cX, cP⟩) | (exact ⟨cX6, cP6⟩) | (exact ⟨cells_kept hb7 _ _ cX6, cells_kept hb7 _ _ cP6⟩))
      (first | (go_at_call 12; refine (toProgram_copy a len cap rows _ hA hlen (fun t _ => hr' t)).mono ?_; rintro e w6 ⟨rfl, hC6, hb6⟩; have hD := hX.below hb6; have cX6 := cells_kept hb6 _ _ cX; have cP6 := cells_kept hb6 _ _ cP) | (go_at_call 14; refine (eqProgram_same _ _ _ _ _ rows _ hD hC6.codes).mono ?_; rintro e w7 ⟨rfl, hb7⟩))
    have b7 : Below w.heap.size w w7 := bel_trans b5 (bel_trans (by go_grown) (bel_trans hb6 hb7))
    go_wp2
    go_ret
    exact ⟨rfl, b7⟩
end Go.Proofs.Ytiokkoaalakakaa
