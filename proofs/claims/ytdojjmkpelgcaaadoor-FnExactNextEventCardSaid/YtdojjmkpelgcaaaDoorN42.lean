/-
  Joined: SizeB, EqInts.
-/
import Derived.Test.YtdojjmkpelgcaaaDoorN04

namespace Go.Proofs.YtdojjmkpelgcaaaDoor
set_option maxRecDepth 100000
open Go.RowKit

theorem lessAll_each : ∀ (rows : List (List I3)) (left : Int), 0 ≤ lessAll left rows → 0 ≤ left → ∀ r ∈ rows, (r.length : Int) ≤ left
 | [], _, _, _, r, hr => by cases hr
 | x :: xs, left, h, h0, r, hr => by
  unfold lessAll at h
  split at h
  ·omega
  ·rcases List.mem_cons.1 hr with rfl | hr
   ·omega
   ·have := lessAll_each xs (left - x.length) h (by omega) r hr
    omega

theorem getD_length_le {rows : List (List I3)} {n : Nat} (h : ∀ r ∈ rows, r.length ≤ n) (t : Nat) : (rows.getD t []).length ≤ n := by
 by_cases ht : t < rows.length
 ·have : rows.getD t [] = rows[t] := by simp [List.getD, ht]
  rw [this]
  exact h _ (List.getElem_mem ht)
 ·have : rows.getD t [] = [] := by simp [List.getD, List.getElem?_eq_none (Nat.le_of_not_lt ht)]
  rw [this]
  exact Nat.zero_le _

theorem size_bounds {rows : List (List I3)} {left : Int} (hm : left ≤ 1048576) (h : 0 ≤ sizeLeft left rows) (h0 : 0 ≤ left) : rows.length ≤ 1048576 ∧ ∀ t, (rows.getD t []).length ≤ 1048576 := by
 unfold sizeLeft at h
 split at h
 ·omega
 ·refine ⟨by omega, fun t => getD_length_le (fun r hr => ?_) t⟩
  have := lessAll_each rows _ h (by omega) r hr
  omega


set_option maxHeartbeats 1000000 in
theorem eqIntS_same (a a' : Option Addr) (len cap cap' : Nat) (zs : List Int) (w : World) (h : Ints .i64 w a len cap zs) (h' : Ints .i64 w a' len cap' zs) :
  Calls Tryd.prog 21 #[.slice a len cap, .slice a' len cap'] w fun e w' => e = .returned (.bool true) ∧ ∃ d, w' = w.drewN d := by
 obtain ⟨hl, hlc, hcm, hcase⟩ := h
 obtain ⟨_, hlc', hcm', hcase'⟩ := h'
 unfold maxLen at hcm hcm'
 have hne : ((len : Int) != (len : Int)) = false := by simp
 by_cases h0 : len = 0
 ·subst h0
  go_enter Tryd.func21, Tryd.ntmps21
  go_wp2
  refine wp_loop_rounds 1 ?_
  rw [rounds_succ]
  go_wp2
  go_ret
  exact ⟨rfl, 0, rfl⟩
 ·rcases hcase with h0' | ⟨b, off, rfl, hblt, hcell⟩
  ·exact absurd h0' h0
  rcases hcase' with h0' | ⟨b', off', rfl, hblt', hcell'⟩
  ·exact absurd h0' h0
  go_enter Tryd.func21, Tryd.ntmps21
  go_wp2
  go_loopw [5] (fun si wr => ∃ k d : Nat, k ≤ len ∧ si = .int .i64 k ∧ wr = w.drewN d) (fun si _ => len - (intOf si).toNat)
  case atStart => exact ⟨0, 0, by omega, rfl, rfl⟩
  case round =>
   obtain ⟨k, d, hk, rfl, rfl⟩ := hrel
   by_cases hlt : k < len
   ·have hc := hcell k hlt
    have hc' := hcell' k hlt
    have hlt' : (k : Int) < (len : Int) := by omega
    generalize zs.getD k 0 = x at hc hc'
    clear hcell hcell'
    go_wp2
    go_quiet (fail)
    go_wp2
    go_roundw
    case rel => exact ⟨k + 1, _, by omega, by go_num, rfl⟩
    case measure => simp [intOf]; omega
   ·go_wp2
    go_ret
    exact ⟨rfl, d, rfl⟩
end Go.Proofs.YtdojjmkpelgcaaaDoor
