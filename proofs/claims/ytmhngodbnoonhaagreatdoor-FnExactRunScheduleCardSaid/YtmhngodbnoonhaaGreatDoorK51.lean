/-
  Joined: EqInts, Vm1, SizeB.
-/
import Derived.Test.YtmhngodbnoonhaaGreatDoorK01
import Derived.Test.YtmhngodbnoonhaaGreatDoorK06

/-
  eqIntS: two slices of the same integers are found alike; nothing is written.
-/
namespace Go.Proofs.YtmhngodbnoonhaaGreatDoor
open Go.RowKit

set_option maxHeartbeats 1000000 in
set_option maxRecDepth 100000 in
theorem eqIntS_same (a a' : Option Addr) (len cap cap' : Nat) (zs : List Int) (w : World) (h : Ints .i64 w a len cap zs) (h' : Ints .i64 w a' len cap' zs) :
    Calls Tryz.prog 25 #[.slice a len cap, .slice a' len cap'] w fun e w' => e = .returned (.bool true) ∧ ∃ d, w' = w.drewN d := by
  obtain ⟨hl, hlc, hcm, hcase⟩ := h
  obtain ⟨_, hlc', hcm', hcase'⟩ := h'
  unfold maxLen at hcm hcm'
  have hne : ((len : Int) != (len : Int)) = false := by simp
  by_cases h0 : len = 0
  · subst h0
    go_enter Tryz.func25, Tryz.ntmps25
    go_wp2
    refine wp_loop_rounds 1 ?_
    rw [rounds_succ]
    go_wp2
    go_ret
    exact ⟨rfl, 0, rfl⟩
  · rcases hcase with h0' | ⟨b, off, rfl, hblt, hcell⟩
    · exact absurd h0' h0
    rcases hcase' with h0' | ⟨b', off', rfl, hblt', hcell'⟩
    · exact absurd h0' h0
    go_enter Tryz.func25, Tryz.ntmps25
    go_wp2
    go_loopw [5] (fun si wr => ∃ k d : Nat, k ≤ len ∧ si = .int .i64 k ∧ wr = w.drewN d) (fun si _ => len - (intOf si).toNat)
    case atStart => exact ⟨0, 0, by omega, rfl, rfl⟩
    case round =>
      obtain ⟨k, d, hk, rfl, rfl⟩ := hrel
      by_cases hlt : k < len
      · have hc := hcell k hlt
        have hc' := hcell' k hlt
        have hlt' : (k : Int) < (len : Int) := by omega
        generalize zs.getD k 0 = x at hc hc'
        clear hcell hcell'
        go_wp2
        go_quiet (fail)
        go_wp2
        go_roundw
        case rel => exact ⟨k + 1, _, by omega, by go_num, rfl⟩
        case measure => simp [intOf]; omega
      · go_wp2
        go_ret
        exact ⟨rfl, d, rfl⟩
end Go.Proofs.YtmhngodbnoonhaaGreatDoor


/-
  szVm, eqVm: how much a state holds; a state and its like are alike.
-/
namespace Go.Proofs.YtmhngodbnoonhaaGreatDoor
open Go.RowKit

/-- What szVm tells: more than is left, or what is left then; each slice is no longer than that was. -/
def SzV (s : S4) (left r : Int) : Prop := r = -1 ∨ (0 ≤ r ∧ r ≤ left ∧ (s.1.2.1 : Int) ≤ left ∧ (s.2.1.2.1 : Int) ≤ left ∧ (s.2.2.1.2.1 : Int) ≤ left ∧ (s.2.2.2.2.1 : Int) ≤ left)

set_option maxHeartbeats 2000000 in
set_option maxRecDepth 100000 in
theorem eqVm_same (s s' : S4) (m : V4) (w : World) (h : Vmem w s m) (h' : Vmem w s' m) :
    Calls Tryz.prog 22 #[s.val, s'.val] w fun e w' => e = .returned (.bool true) ∧ Below w.heap.size w w' := by
  obtain ⟨⟨i0, _⟩, ⟨i1, _⟩, ⟨i2, _⟩, ⟨i3, _⟩⟩ := h
  obtain ⟨⟨j0, _⟩, ⟨j1, _⟩, ⟨j2, _⟩, ⟨j3, _⟩⟩ := h'
  obtain ⟨⟨a0, n0, c0⟩, ⟨a1, n1, c1⟩, ⟨a2, n2, c2⟩, ⟨a3, n3, c3⟩⟩ := s
  obtain ⟨⟨b0, k0, d0⟩, ⟨b1, k1, d1⟩, ⟨b2, k2, d2⟩, ⟨b3, k3, d3⟩⟩ := s'
  obtain ⟨m0, m1, m2, m3⟩ := m
  unfold S4.val
  simp only at i0 i1 i2 i3 j0 j1 j2 j3 ⊢
  obtain rfl : k0 = n0 := j0.1.symm.trans i0.1
  obtain rfl : k1 = n1 := j1.1.symm.trans i1.1
  obtain rfl : k2 = n2 := j2.1.symm.trans i2.1
  obtain rfl : k3 = n3 := j3.1.symm.trans i3.1
  have hb0 : Below w.heap.size w ((w.alloc (.cells #[.slice a0 k0 c0, .slice a1 k1 c1, .slice a2 k2 c2, .slice a3 k3 c3] 33)).alloc (.cells #[.slice b0 k0 d0, .slice b1 k1 d1, .slice b2 k2 d2, .slice b3 k3 d3] 33)) := by go_grown
  have hw : ∀ j v, [Value.slice a0 k0 c0, .slice a1 k1 c1, .slice a2 k2 c2, .slice a3 k3 c3][j]? = some v → ((w.alloc (.cells #[.slice a0 k0 c0, .slice a1 k1 c1, .slice a2 k2 c2, .slice a3 k3 c3] 33)).alloc (.cells #[.slice b0 k0 d0, .slice b1 k1 d1, .slice b2 k2 d2, .slice b3 k3 d3] 33)).cell? ⟨w.heap.size, j, none⟩ = some v := by
    intro j v hj
    match j, hj with
    | 0, hj => simp at hj; subst hj; simp [go_sem]
    | 1, hj => simp at hj; subst hj; simp [go_sem]
    | 2, hj => simp at hj; subst hj; simp [go_sem]
    | 3, hj => simp at hj; subst hj; simp [go_sem]
    | (j + 4), hj => simp at hj
  have hw' : ∀ j v, [Value.slice b0 k0 d0, .slice b1 k1 d1, .slice b2 k2 d2, .slice b3 k3 d3][j]? = some v → ((w.alloc (.cells #[.slice a0 k0 c0, .slice a1 k1 c1, .slice a2 k2 c2, .slice a3 k3 c3] 33)).alloc (.cells #[.slice b0 k0 d0, .slice b1 k1 d1, .slice b2 k2 d2, .slice b3 k3 d3] 33)).cell? ⟨w.heap.size + 1, j, none⟩ = some v := by
    intro j v hj
    match j, hj with
    | 0, hj => simp at hj; subst hj; simp [go_sem]
    | 1, hj => simp at hj; subst hj; simp [go_sem]
    | 2, hj => simp at hj; subst hj; simp [go_sem]
    | 3, hj => simp at hj; subst hj; simp [go_sem]
    | (j + 4), hj => simp at hj
  have u0 := hw 0 _ rfl
  have u1 := hw 1 _ rfl
  have u2 := hw 2 _ rfl
  have u3 := hw 3 _ rfl
  have v0 := hw' 0 _ rfl
  have v1 := hw' 1 _ rfl
  have v2 := hw' 2 _ rfl
  have v3 := hw' 3 _ rfl
  clear hw hw'
  go_enter Tryz.func22, Tryz.ntmps22
  go_wp2_with fail
  generalize (w.alloc (.cells #[.slice a0 k0 c0, .slice a1 k1 c1, .slice a2 k2 c2, .slice a3 k3 c3] 33)).alloc (.cells #[.slice b0 k0 d0, .slice b1 k1 d1, .slice b2 k2 d2, .slice b3 k3 d3] 33) = W at *
  replace i0 := i0.below hb0
  replace i1 := i1.below hb0
  replace i2 := i2.below hb0
  replace i3 := i3.below hb0
  replace j0 := j0.below hb0
  replace j1 := j1.below hb0
  replace j2 := j2.below hb0
  replace j3 := j3.below hb0
  refine (eqIntS_same a0 b0 k0 c0 d0 m0 _ i0 j0).mono ?_
  rintro e w1 ⟨rfl, d, rfl⟩
  replace hb0 : Below w.heap.size w (W.drewN d) := ⟨hb0.os, hb0.tape, hb0.output, hb0.size, hb0.block⟩
  replace i1 : Ints .i64 (W.drewN d) a1 k1 c1 m1 := i1
  replace j1 : Ints .i64 (W.drewN d) b1 k1 d1 m1 := j1
  replace u1 : (W.drewN d).cell? ⟨w.heap.size, 1, none⟩ = some (.slice a1 k1 c1) := u1
  replace v1 : (W.drewN d).cell? ⟨w.heap.size + 1, 1, none⟩ = some (.slice b1 k1 d1) := v1
  replace i2 : Ints .i64 (W.drewN d) a2 k2 c2 m2 := i2
  replace j2 : Ints .i64 (W.drewN d) b2 k2 d2 m2 := j2
  replace u2 : (W.drewN d).cell? ⟨w.heap.size, 2, none⟩ = some (.slice a2 k2 c2) := u2
  replace v2 : (W.drewN d).cell? ⟨w.heap.size + 1, 2, none⟩ = some (.slice b2 k2 d2) := v2
  replace i3 : Ints .i64 (W.drewN d) a3 k3 c3 m3 := i3
  replace j3 : Ints .i64 (W.drewN d) b3 k3 d3 m3 := j3
  replace u3 : (W.drewN d).cell? ⟨w.heap.size, 3, none⟩ = some (.slice a3 k3 c3) := u3
  replace v3 : (W.drewN d).cell? ⟨w.heap.size + 1, 3, none⟩ = some (.slice b3 k3 d3) := v3
  clear i0 j0 u0 v0
  generalize W.drewN d = W at *
  go_wp2_with fail
  refine (eqIntS_same a1 b1 k1 c1 d1 m1 _ i1 j1).mono ?_
  rintro e w1 ⟨rfl, d, rfl⟩
  replace hb0 : Below w.heap.size w (W.drewN d) := ⟨hb0.os, hb0.tape, hb0.output, hb0.size, hb0.block⟩
  replace i2 : Ints .i64 (W.drewN d) a2 k2 c2 m2 := i2
  replace j2 : Ints .i64 (W.drewN d) b2 k2 d2 m2 := j2
  replace u2 : (W.drewN d).cell? ⟨w.heap.size, 2, none⟩ = some (.slice a2 k2 c2) := u2
  replace v2 : (W.drewN d).cell? ⟨w.heap.size + 1, 2, none⟩ = some (.slice b2 k2 d2) := v2
  replace i3 : Ints .i64 (W.drewN d) a3 k3 c3 m3 := i3
  replace j3 : Ints .i64 (W.drewN d) b3 k3 d3 m3 := j3
  replace u3 : (W.drewN d).cell? ⟨w.heap.size, 3, none⟩ = some (.slice a3 k3 c3) := u3
  replace v3 : (W.drewN d).cell? ⟨w.heap.size + 1, 3, none⟩ = some (.slice b3 k3 d3) := v3
  clear i1 j1 u1 v1
  generalize W.drewN d = W at *
  go_wp2_with fail
  refine (eqIntS_same a2 b2 k2 c2 d2 m2 _ i2 j2).mono ?_
  rintro e w1 ⟨rfl, d, rfl⟩
  replace hb0 : Below w.heap.size w (W.drewN d) := ⟨hb0.os, hb0.tape, hb0.output, hb0.size, hb0.block⟩
  replace i3 : Ints .i64 (W.drewN d) a3 k3 c3 m3 := i3
  replace j3 : Ints .i64 (W.drewN d) b3 k3 d3 m3 := j3
  replace u3 : (W.drewN d).cell? ⟨w.heap.size, 3, none⟩ = some (.slice a3 k3 c3) := u3
  replace v3 : (W.drewN d).cell? ⟨w.heap.size + 1, 3, none⟩ = some (.slice b3 k3 d3) := v3
  clear i2 j2 u2 v2
  generalize W.drewN d = W at *
  go_wp2_with fail
  refine (eqIntS_same a3 b3 k3 c3 d3 m3 _ i3 j3).mono ?_
  rintro e w1 ⟨rfl, d, rfl⟩
  replace hb0 : Below w.heap.size w (W.drewN d) := ⟨hb0.os, hb0.tape, hb0.output, hb0.size, hb0.block⟩
  clear i3 j3 u3 v3
  generalize W.drewN d = W at *
  go_wp2
  go_ret
  exact ⟨rfl, hb0⟩
end Go.Proofs.YtmhngodbnoonhaaGreatDoor


/-
  What the size of a program that came in tells of its rows.
-/
namespace Go.Proofs.YtmhngodbnoonhaaGreatDoor
open Go.RowKit

theorem lessAll_each : ∀ (rows : List (List I3)) (left : Int), 0 ≤ lessAll left rows → 0 ≤ left → ∀ r ∈ rows, (r.length : Int) ≤ left
  | [], _, _, _, r, hr => by cases hr
  | x :: xs, left, h, h0, r, hr => by
    unfold lessAll at h
    split at h
    · omega
    · rcases List.mem_cons.1 hr with rfl | hr
      · omega
      · have := lessAll_each xs (left - x.length) h (by omega) r hr
        omega

theorem getD_length_le {rows : List (List I3)} {n : Nat} (h : ∀ r ∈ rows, r.length ≤ n) (t : Nat) : (rows.getD t []).length ≤ n := by
  by_cases ht : t < rows.length
  · have : rows.getD t [] = rows[t] := by simp [List.getD, ht]
    rw [this]
    exact h _ (List.getElem_mem ht)
  · have : rows.getD t [] = [] := by simp [List.getD, List.getElem?_eq_none (Nat.le_of_not_lt ht)]
    rw [this]
    exact Nat.zero_le _

/-- A program that is not too large has not too many rows, and none that is too long. -/
theorem size_bounds {rows : List (List I3)} {left : Int} (hm : left ≤ 1048576) (h : 0 ≤ sizeLeft left rows) (h0 : 0 ≤ left) : rows.length ≤ 1048576 ∧ ∀ t, (rows.getD t []).length ≤ 1048576 := by
  unfold sizeLeft at h
  split at h
  · omega
  · refine ⟨by omega, fun t => getD_length_le (fun r hr => ?_) t⟩
    have := lessAll_each rows _ h (by omega) r hr
    omega

end Go.Proofs.YtmhngodbnoonhaaGreatDoor
