/-
  The marks of a program in memory of its own are found (heldInstrS, heldInstrSS, heldProgram).
-/
import Derived.Test.YtiokkoaalakakaaDoorMarkP
import Derived.Test.YtiokkoaalakakaaDoorProg4
namespace Go.Proofs.YtiokkoaalakakaaDoor
open Go.RowKit

theorem flat_at {xs : List I3} {t : Nat} (ht : t < xs.length) : (flat xs)[t * 3]? = some (.int .i64 (xs.getD t (0, 0, 0)).1) ∧ (flat xs)[t * 3 + 1]? = some (.int .i64 (xs.getD t (0, 0, 0)).2.1) ∧ (flat xs)[t * 3 + 2]? = some (.int .i64 (xs.getD t (0, 0, 0)).2.2) := by
  have hsplit : flat xs = flat (xs.take t) ++ ((xs.getD t (0, 0, 0)).cells ++ flat (xs.drop (t + 1))) := by
    rw [← List.append_assoc, ← flat_take_succ ht]
    unfold flat
    rw [← List.flatMap_append, List.take_append_drop]
  have hlt : (flat (xs.take t)).length = t * 3 := by rw [flat_length, List.length_take]; rw [Nat.min_eq_left (by omega)]
  have h : ∀ j, j < 3 → (flat xs)[t * 3 + j]? = ((xs.getD t (0, 0, 0)).cells)[j]? := fun j hj => by
    rw [hsplit, List.getElem?_append_right (by omega), hlt, Nat.add_sub_cancel_left, List.getElem?_append_left (by simp [I3.cells]; omega)]
  exact ⟨by simpa [I3.cells] using h 0 (by omega), by simpa [I3.cells] using h 1 (by omega), by simpa [I3.cells] using h 2 (by omega)⟩

set_option maxHeartbeats 1000000 in
set_option maxRecDepth 100000 in
theorem heldInstrS_own (base g n cap : Nat) (k : Int) (xs : List I3) (w : World) (hk0 : 0 ≤ k) (hk : k ≤ 1000000000) (hn : n ≤ 1048576) (hl : xs.length = n) (ho : w.ownsRow base 26 3 (.slice (some ⟨g, 0, none⟩) n cap) n (flat (mkI k xs n))) :
    Calls Tryd.prog 72 #[.slice (some ⟨g, 0, none⟩) n cap, .int .i64 k] w fun e w' => e = .returned (.int .i64 (k + n * 3)) ∧ w = w' := by
  go_enter Tryd.func72, Tryd.ntmps72
  go_wp2
  go_loop [1, 5] (fun sk si => ∃ j : Nat, j ≤ n ∧ si = .int .i64 j ∧ sk = .int .i64 (k + j * 3)) (fun _ si => n - (intOf si).toNat)
  case atStart => exact ⟨0, by omega, rfl, by go_num⟩
  case round =>
    obtain ⟨j, hj, rfl, rfl⟩ := hrel
    by_cases hlt : j < n
    · have hlt2 : (j : Int) < (n : Int) := by omega
      have hj0 : (0 : Int) ≤ (j : Int) := by omega
      obtain ⟨a0, a1, a2⟩ := flat_at (xs := mkI k xs n) (t := j) (by rw [mkI_len]; omega)
      rw [mkI_get k xs n j hlt (by omega)] at a0 a1 a2
      have c0 : w.cell? ⟨g, j * 3, none⟩ = some (.int .i64 (k + j * 3)) := by rw [ho.cellAt _ (by omega)]; exact a0
      have c1 : w.cell? ⟨g, j * 3 + 1, none⟩ = some (.int .i64 (k + j * 3 + 1)) := by rw [ho.cellAt _ (by omega)]; exact a1
      have c2 : w.cell? ⟨g, j * 3 + 2, none⟩ = some (.int .i64 (k + j * 3 + 1 + 1)) := by rw [ho.cellAt _ (by omega), a2]; simp; omega
      have n0 : ((k + (j : Int) * 3) != (k + (j : Int) * 3)) = false := by simp
      have n1 : ((k + (j : Int) * 3 + 1) != (k + (j : Int) * 3 + 1)) = false := by simp
      have n2 : ((k + (j : Int) * 3 + 1 + 1) != (k + (j : Int) * 3 + 1 + 1)) = false := by simp
      clear ho a0 a1 a2
      go_wp2
      go_round
      case rel => exact ⟨j + 1, by omega, by go_num, by go_num⟩
      case measure => simp [intOf]; omega
    · obtain rfl : j = n := by omega
      clear ho
      go_wp2
      go_ret
      exact ⟨rfl, rfl⟩

theorem heldInstrS_none (k : Int) (w : World) : Calls Tryd.prog 72 #[.slice none 0 0, .int .i64 k] w fun e w' => e = .returned (.int .i64 k) ∧ w = w' := by
  go_enter Tryd.func72, Tryd.ntmps72
  go_wp2
  refine wp_loop_rounds 1 ?_
  rw [rounds_succ]
  go_wp2
  go_ret
  exact ⟨rfl, rfl⟩

theorem heldInstrS_any (base : Nat) (v : Value) (k : Int) (xs : List I3) (w : World) (hk0 : 0 ≤ k) (hk : k ≤ 1000000000) (hn : xs.length ≤ 1048576) (ho : w.ownsRow base 26 3 v xs.length (flat (mkI k xs xs.length))) :
    Calls Tryd.prog 72 #[v, .int .i64 k] w fun e w' => e = .returned (.int .i64 (k + xs.length * 3)) ∧ w = w' := by
  rcases ho.2 with ⟨rfl, h0⟩ | ⟨g, cap, cur, rfl, _⟩
  · obtain rfl : xs = [] := List.eq_nil_of_length_eq_zero h0
    refine (heldInstrS_none k w).mono ?_
    rintro e w' ⟨rfl, rfl⟩
    exact ⟨by simp, rfl⟩
  · exact heldInstrS_own base g _ cap k xs w hk0 hk hn rfl ho

set_option maxHeartbeats 1000000 in
set_option maxRecDepth 100000 in
theorem heldInstrSS_own (B : Nat) (v : Value) (k : Int) (rows : List (List I3)) (w : World) (hk0 : 0 ≤ k) (hk : k ≤ 1000) (hcj : ∀ j, j ≤ rows.length → cntP rows j ≤ 10000000) (hn : ∀ j, j < rows.length → (rows.getD j []).length ≤ 1048576) (h : OwnProg w B v (mkP k rows rows.length)) :
    Calls Tryd.prog 50 #[v, .int .i64 k] w fun e w' => e = .returned (.int .i64 (k + cntP rows rows.length)) ∧ w = w' := by
  obtain ⟨vs, h1, h2⟩ := h
  rw [mkP_len] at h1
  rcases h1.2 with ⟨rfl, h0⟩ | ⟨P, cap, cur, rfl, hPB, hh, hlc, hcm, _⟩
  · obtain rfl : rows = [] := List.eq_nil_of_length_eq_zero h0
    go_enter Tryd.func50, Tryd.ntmps50
    go_wp2
    refine wp_loop_rounds 1 ?_
    rw [rounds_succ]
    go_wp2
    go_ret
    exact ⟨by simp [cntP], rfl⟩
  · clear hh
    unfold maxLen at hcm
    have HL : Hid (vs.length = rows.length) := by have := h2.1; rwa [mkP_len] at this
    go_enter Tryd.func50, Tryd.ntmps50
    go_wp2
    go_loop [1, 5] (fun sk si => ∃ j : Nat, j ≤ rows.length ∧ si = .int .i64 j ∧ sk = .int .i64 (k + cntP rows j)) (fun _ si => rows.length - (intOf si).toNat)
    case atStart => exact ⟨0, by omega, rfl, by simp [cntP]⟩
    case round =>
      obtain ⟨j, hj, rfl, rfl⟩ := hrel
      by_cases hlt : j < rows.length
      · have hlt2 : (j : Int) < (rows.length : Int) := by omega
        have hj0 : (0 : Int) ≤ (j : Int) := by omega
        have hc0 := h1.cellAt j (by omega)
        have hvt : vs[j]? = some (vs.getD j undef) := by simp [List.getD, show j < vs.length by have := HL.out; omega]
        rw [hvt] at hc0
        have hrow := h2.2.1 j (by rw [mkP_len]; exact hlt)
        rw [mkP_get k rows _ j hlt hlt, mkI_len] at hrow
        have hcs := hcj j hj
        have hnj := hn j hlt
        have hstep := cntP_step rows j hlt
        obtain ⟨c, hcd⟩ : ∃ c, c = cntP rows j := ⟨_, rfl⟩
        obtain ⟨r, hrd⟩ : ∃ r, r = rows.getD j [] := ⟨_, rfl⟩
        rw [← hcd] at hcs hstep hrow ⊢
        rw [← hrd] at hnj hstep hrow
        have HS : Hid (cntP rows (j + 1) = c + r.length * 3) := hstep
        have K := heldInstrS_any B (vs.getD j undef) (k + c) r
        clear hcd hrd hstep hvt
        generalize vs.getD j undef = u at hc0 hrow K
        have hq : ¬ (k + (c : Int) + (r.length : Int) * 3) < 0 := by omega
        go_wp2_with fail
        refine (K _ (by omega) (by omega) hnj hrow).mono ?_
        rintro e w1 ⟨rfl, rfl⟩
        clear hrow hc0 K
        go_wp2
        go_round
        case rel => exact ⟨j + 1, by omega, by go_num, by rw [HS.out]; go_num⟩
        case measure => simp [intOf]; omega
      · obtain rfl : j = rows.length := by omega
        go_wp2
        go_ret
        exact ⟨rfl, rfl⟩

set_option maxHeartbeats 1000000 in
set_option maxRecDepth 100000 in
theorem heldProgram_own (B : Nat) (v : Value) (k : Int) (rows : List (List I3)) (w : World) (hk0 : 0 ≤ k) (hk : k ≤ 1000) (hcj : ∀ j, j ≤ rows.length → cntP rows j ≤ 10000000) (hn : ∀ j, j < rows.length → (rows.getD j []).length ≤ 1048576) (h : OwnProg w B v (mkP k rows rows.length)) :
    Calls Tryd.prog 27 #[.agg #[v], .int .i64 k] w fun e w' => e = .returned (.int .i64 (k + cntP rows rows.length)) ∧ Below w.heap.size w w' := by
  obtain ⟨a, cap, hv⟩ := h.slice
  subst hv
  have hcc := hcj rows.length (Nat.le_refl _)
  have K := heldInstrSS_own B _ k rows _ hk0 hk hcj hn (h.below (w' := w.alloc (.cells #[.slice a (mkP k rows rows.length).length cap] 42)) (by go_grown))
  rw [mkP_len] at K ⊢
  have hq : ¬ (k + (cntP rows rows.length : Int)) < 0 := by omega
  generalize cntP rows rows.length = c at K hq
  go_enter Tryd.func27, Tryd.ntmps27
  go_wp2_with fail
  refine K.mono ?_
  rintro e w1 ⟨rfl, rfl⟩
  clear h K
  go_wp2
  go_ret
  exact ⟨rfl, by go_grown⟩
end Go.Proofs.YtiokkoaalakakaaDoor
