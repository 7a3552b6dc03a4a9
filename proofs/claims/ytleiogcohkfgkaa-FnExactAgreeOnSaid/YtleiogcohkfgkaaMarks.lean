
/-
  The laws' helpers that mark a slice of integers and look whether the marks are held: markIntS writes k, k + 1, ... into a slice of the call's own; heldIntS finds them.
-/
import Derived.Test.YtleiogcohkfgkaaInts0
namespace Go.Proofs.Ytleiogcohkfgkaa
open Go.RowKit

/-- The first j numbers of a list marked, from k on. -/
def mkTo : Int → List Int → Nat → List Int
  | _, xs, 0 => xs
  | _, [], _ + 1 => []
  | k, _ :: xs, j + 1 => k :: mkTo (k + 1) xs j
theorem mkTo_len : ∀ (k : Int) (xs : List Int) (j : Nat), (mkTo k xs j).length = xs.length
  | _, xs, 0 => by simp [mkTo]
  | _, [], _ + 1 => by simp [mkTo]
  | k, _ :: xs, j + 1 => by simp [mkTo, mkTo_len]
theorem mkTo_set : ∀ (k : Int) (xs : List Int) (j : Nat), j < xs.length → (mkTo k xs j).set j (k + j) = mkTo k xs (j + 1)
  | _, [], j, h => by simp at h
  | k, x :: xs, 0, _ => by simp [mkTo]
  | k, x :: xs, j + 1, h => by
    have ih := mkTo_set (k + 1) xs j (by simpa using h)
    have e : k + ((j + 1 : Nat) : Int) = k + 1 + (j : Int) := by omega
    rw [e]
    simp only [mkTo, List.set_cons_succ, ih]
theorem mkTo_get : ∀ (k : Int) (xs : List Int) (j i : Nat), i < j → j ≤ xs.length → (mkTo k xs j).getD i 0 = k + i
  | _, xs, 0, i, h, _ => by omega
  | _, [], j + 1, i, _, h => by simp at h
  | k, x :: xs, j + 1, 0, _, _ => by simp [mkTo]
  | k, x :: xs, j + 1, i + 1, h, hl => by
    have ih := mkTo_get (k + 1) xs j i (by omega) (by simpa using hl)
    have e : k + ((i + 1 : Nat) : Int) = k + 1 + (i : Int) := by omega
    rw [e, ← ih]
    simp [mkTo]

set_option maxHeartbeats 1000000 in
set_option maxRecDepth 100000 in
theorem markIntS_own (base g n cap : Nat) (k : Int) (xs : List Int) (w : World) (hk0 : 0 ≤ k) (hk : k ≤ 1000000000) (hn : n ≤ 1048576) (ho : w.ownsRow base 3 1 (.slice (some ⟨g, 0, none⟩) n cap) n (xs.map (Value.int .i64))) :
    Calls Try.prog 13 #[.slice (some ⟨g, 0, none⟩) n cap, .int .i64 k] w fun e w' => e = .returned (.int .i64 (k + n)) ∧
      w'.ownsRow base 3 1 (.slice (some ⟨g, 0, none⟩) n cap) n ((mkTo k xs n).map (Value.int .i64)) ∧ Below base w w' := by
  have hlen : xs.length = n := by simpa using ho.1
  have hbg := (ho.lt g rfl).1
  go_enter Try.func13, Try.ntmps13
  go_wp2
  go_loopw [1, 5] (fun sk si wr => ∃ j : Nat, j ≤ n ∧ si = .int .i64 j ∧ sk = .int .i64 (k + j) ∧ wr.ownsRow base 3 1 (.slice (some ⟨g, 0, none⟩) n cap) n ((mkTo k xs j).map (Value.int .i64)) ∧ Below base w wr) (fun _ si _ => n - (intOf si).toNat)
  case atStart => exact ⟨0, by omega, rfl, by go_num, by simpa [mkTo] using ho, Below.refl _ _⟩
  case round =>
    obtain ⟨j, hj, rfl, rfl, hr, hbel⟩ := hrel
    by_cases hlt : j < n
    · have hf := hr.frozenAt j
      have hst := (hr.stored j (.int .i64 (k + j))).1
      rw [← List.map_set, mkTo_set k xs j (by omega)] at hst
      have hold : ∃ u, wr.cell? ⟨g, j, none⟩ = some u := by
        have := hr.cellAt j (by omega)
        rw [this]
        exact ⟨_, List.getElem?_eq_getElem (by simp [mkTo_len]; omega)⟩
      obtain ⟨u, hu⟩ := hold
      have hb1 : Below base w (wr.setCell ⟨g, j, none⟩ (.int .i64 (k + j))) := hbel.setCell hbg _
      clear hr ho
      go_wp2
      go_roundw
      case rel => exact ⟨j + 1, by omega, by go_num, by go_num, hst, hb1⟩
      case measure => simp [intOf]; omega
    · obtain rfl : j = n := by omega
      go_wp2
      go_ret
      exact ⟨rfl, hr, hbel⟩

theorem markIntS_none (a : Option Addr) (cap : Nat) (k : Int) (w : World) :
    Calls Try.prog 13 #[.slice a 0 cap, .int .i64 k] w fun e w' => e = .returned (.int .i64 k) ∧ w = w' := by
  go_enter Try.func13, Try.ntmps13
  go_wp2
  refine wp_loop_rounds 1 ?_
  rw [rounds_succ]
  go_wp2
  go_ret
  exact ⟨rfl, rfl⟩

set_option maxHeartbeats 1000000 in
set_option maxRecDepth 100000 in
theorem heldIntS_yes (a : Option Addr) (n cap : Nat) (k : Int) (zs : List Int) (w : World) (hk0 : 0 ≤ k) (hk : k ≤ 1000000000) (hn : n ≤ 1048576) (h : Ints .i64 w a n cap zs) (hm : ∀ i, i < n → zs.getD i 0 = k + i) :
    Calls Try.prog 14 #[.slice a n cap, .int .i64 k] w fun e w' => e = .returned (.int .i64 (k + n)) ∧ w = w' := by
  obtain ⟨hl, hlc, hcm, hcase⟩ := h
  unfold maxLen at hcm
  by_cases h0 : n = 0
  · subst h0
    have e0 : k + ((0 : Nat) : Int) = k := by omega
    rw [e0]
    go_enter Try.func14, Try.ntmps14
    go_wp2
    refine wp_loop_rounds 1 ?_
    rw [rounds_succ]
    go_wp2
    go_ret
    exact ⟨rfl, rfl⟩
  · rcases hcase with h0' | ⟨b, off, rfl, hblt, hcell⟩
    · exact absurd h0' h0
    go_enter Try.func14, Try.ntmps14
    go_wp2
    go_loop [1, 5] (fun sk si => ∃ j : Nat, j ≤ n ∧ si = .int .i64 j ∧ sk = .int .i64 (k + j)) (fun _ si => n - (intOf si).toNat)
    case atStart => exact ⟨0, by omega, rfl, by go_num⟩
    case round =>
      obtain ⟨j, hj, rfl, rfl⟩ := hrel
      by_cases hlt : j < n
      · have hc := hcell j hlt
        rw [hm j hlt] at hc
        have hne : ((k + (j : Int)) != (k + (j : Int))) = false := by simp
        clear hcell hm
        go_wp2
        go_round
        case rel => exact ⟨j + 1, by omega, by go_num, by go_num⟩
        case measure => simp [intOf]; omega
      · obtain rfl : j = n := by omega
        go_wp2
        go_ret
        exact ⟨rfl, rfl⟩
end Go.Proofs.Ytleiogcohkfgkaa
