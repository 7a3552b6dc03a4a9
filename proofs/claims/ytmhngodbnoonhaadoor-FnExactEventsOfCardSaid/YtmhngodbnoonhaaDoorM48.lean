/-
  Joined: EvM.
-/
import Derived.Test.YtmhngodbnoonhaaDoorProg
import Derived.WalkKit
import Derived.WalkSpells
import Derived.WalkLawsBesides
import Derived.RegionTactic
import Derived.BigQuiet
import Derived.Deep.QuietTactic
import Derived.Deep.Slices
import Derived.Deep.Strs
import Derived.Deep.Fields
import Derived.ChangeSame
import Derived.Handy
import Derived.OwnWalk
import Derived.ChangeSlices
import Derived.Lib.SmallJoins
import Derived.Shelf.Abstract
import Derived.Deep.RegionHeld3
import Derived.Laws.BytesArg
import Derived.Deep.RegionLaw
import Derived.Laws.OwnMore
import Derived.Laws.CopyOwn
import Derived.Laws.Tables
import Derived.BigRegion
import Derived.Maps.AppendAt
import Derived.Stop.Asserts
import Derived.Recover
import Derived.Laws.RangeString
import Derived.Laws.RangeAny
import Derived.Laws.Bits
import Derived.Lib.FieldsP
import Derived.Shelf.SlSortCmp.NoneTotal
import Derived.Shelf.Spec.SlicesGrow
import Derived.Laws.AppendOwnNone
import Derived.Lib.SliceRun
import Derived.Deep.MidRow
import Derived.Test.YtmhngodbnoonhaaDoorM01
import Derived.Test.YtmhngodbnoonhaaDoorM02
import Derived.Test.YtmhngodbnoonhaaDoorM04
import Derived.Test.YtmhngodbnoonhaaDoorM07
import Derived.Test.YtmhngodbnoonhaaDoorM21
import Derived.Test.YtmhngodbnoonhaaDoorM22
import Derived.Test.YtmhngodbnoonhaaDoorM23
import Derived.Test.YtmhngodbnoonhaaDoorM37

/-
  Rows of events: the laws' eqEvent, eqEventS, markEventS, heldEventS.
-/
namespace Go.Proofs.YtmhngodbnoonhaaDoor
open Go.RowKit
set_option linter.unusedVariables false
set_option linter.unusedSimpArgs false

set_option maxHeartbeats 1000000 in
theorem eqEvent_same (x : I4) (w : World) : Calls Tryd.prog 78 #[x.val, x.val] w fun e w' => e = .returned (.bool true) ∧ Below w.heap.size w w' := by
  obtain ⟨p, q, r, s⟩ := x
  unfold I4.val
  go_enter Tryd.func78, Tryd.ntmps78
  go_wp2
  go_returns
  exact ⟨rfl, by go_grown⟩

set_option maxHeartbeats 1000000 in
set_option maxRecDepth 100000 in
theorem eqEventS_same (a a' : Option Addr) (len cap cap' : Nat) (xs : List I4) (w : World) (h : Evs w a len xs) (h' : Evs w a' len xs) :
    Calls Tryd.prog 34 #[.slice a len cap, .slice a' len cap'] w fun e w' => e = .returned (.bool true) ∧ Below w.heap.size w w' := by
  obtain ⟨hl, hcm, hcase⟩ := h
  obtain ⟨_, _, hcase'⟩ := h'
  unfold maxLen at hcm
  have hne : ((len : Int) != (len : Int)) = false := by simp
  by_cases h0 : len = 0
  · subst h0
    go_enter Tryd.func34, Tryd.ntmps34
    go_wp2
    refine wp_loop_rounds 1 ?_
    rw [rounds_succ]
    go_wp2
    go_ret
    exact ⟨rfl, Below.refl _ _⟩
  · rcases hcase with h0' | ⟨b, rfl, hblt, hcell⟩
    · exact absurd h0' h0
    rcases hcase' with h0' | ⟨b', rfl, hblt', hcell'⟩
    · exact absurd h0' h0
    go_enter Tryd.func34, Tryd.ntmps34
    go_wp2
    go_loopw [5] (fun si wr => ∃ k : Nat, k ≤ len ∧ si = .int .i64 k ∧ Below w.heap.size w wr) (fun si _ => len - (intOf si).toNat)
    case atStart => exact ⟨0, by omega, rfl, Below.refl _ _⟩
    case round =>
      obtain ⟨k, hk, rfl, hbel⟩ := hrel
      by_cases hlt : k < len
      · obtain ⟨c0, c1, c2, c3⟩ := hcell k hlt
        obtain ⟨e0, e1, e2, e3⟩ := hcell' k hlt
        rw [← hbel.cell (p := ⟨b, _, none⟩) hblt] at c0 c1 c2 c3
        rw [← hbel.cell (p := ⟨b', _, none⟩) hblt'] at e0 e1 e2 e3
        have hlt' : (k : Int) < (len : Int) := by omega
        generalize xs.getD k (0, 0, 0, 0) = x at c0 c1 c2 c3 e0 e1 e2 e3
        clear hcell hcell'
        go_wp2_with fail
        have hk0 : (0 : Int) ≤ (k : Int) := by omega
        go_region_held3 (fun w' => w'.cell? ⟨b, k * 4, none⟩ = some (.int .i64 x.1) ∧ w'.cell? ⟨b, k * 4 + 1, none⟩ = some (.int .i64 x.2.1) ∧ w'.cell? ⟨b, k * 4 + 2, none⟩ = some (.int .i64 x.2.2.1) ∧ w'.cell? ⟨b, k * 4 + 3, none⟩ = some (.int .i64 x.2.2.2) ∧ w'.cell? ⟨b', k * 4, none⟩ = some (.int .i64 x.1) ∧ w'.cell? ⟨b', k * 4 + 1, none⟩ = some (.int .i64 x.2.1) ∧ w'.cell? ⟨b', k * 4 + 2, none⟩ = some (.int .i64 x.2.2.1) ∧ w'.cell? ⟨b', k * 4 + 3, none⟩ = some (.int .i64 x.2.2.2)) (first | (exact ⟨c0, c1, c2, c3, e0, e1, e2, e3⟩) | (refine ⟨?_, ?_, ?_, ?_, ?_, ?_, ?_, ?_⟩ <;> (apply cells_kept (by assumption); assumption)) | go_keep)
          (first | (go_at_call 78; refine (eqEvent_same x _).mono ?_; rintro e w1 ⟨rfl, hb1⟩))
        have hbel1 : Below w.heap.size w w1 := bel_trans hbel (bel_trans (by go_grown) hb1)
        go_wp2
        go_roundw
        case rel => exact ⟨k + 1, by omega, by go_num, hbel1⟩
        case measure => simp [intOf]; omega
      · go_wp2
        go_ret
        exact ⟨rfl, hbel⟩

def mk4 : Int → List I4 → Nat → List I4
  | _, xs, 0 => xs
  | _, [], _ + 1 => []
  | k, _ :: xs, j + 1 => (k, k + 1, k + 2, k + 3) :: mk4 (k + 4) xs j
theorem mk4_len : ∀ (k : Int) (xs : List I4) (j : Nat), (mk4 k xs j).length = xs.length
  | _, xs, 0 => by simp [mk4]
  | _, [], _ + 1 => by simp [mk4]
  | k, _ :: xs, j + 1 => by simp [mk4, mk4_len]
theorem mk4_set : ∀ (k : Int) (xs : List I4) (j : Nat), j < xs.length →
    ((((flat4 (mk4 k xs j)).set (j * 4) (.int .i64 (k + j * 4))).set (j * 4 + 1) (.int .i64 (k + j * 4 + 1))).set (j * 4 + 2) (.int .i64 (k + j * 4 + 2))).set (j * 4 + 3) (.int .i64 (k + j * 4 + 3)) = flat4 (mk4 k xs (j + 1))
  | _, [], j, h => by simp at h
  | k, x :: xs, 0, _ => by simp [mk4, flat4]
  | k, x :: xs, j + 1, h => by
    have ih := mk4_set (k + 4) xs j (by simpa using h)
    have e1 : k + ((j + 1 : Nat) : Int) * 4 = k + 4 + (j : Int) * 4 := by omega
    rw [e1]
    have e2 : (j + 1) * 4 = j * 4 + 1 + 1 + 1 + 1 := by omega
    simp only [mk4, flat4, List.cons_append, List.nil_append] at ih ⊢
    rw [e2]
    simp only [List.set_cons_succ]
    rw [ih]
theorem mk4_get : ∀ (k : Int) (xs : List I4) (j i : Nat), i < j → j ≤ xs.length → (mk4 k xs j).getD i (0, 0, 0, 0) = (k + i * 4, k + i * 4 + 1, k + i * 4 + 2, k + i * 4 + 3)
  | _, xs, 0, i, h, _ => by omega
  | _, [], j + 1, i, _, h => by simp at h
  | k, x :: xs, j + 1, 0, _, _ => by simp [mk4]
  | k, x :: xs, j + 1, i + 1, h, hl => by
    have ih := mk4_get (k + 4) xs j i (by omega) (by simpa using hl)
    have e : k + ((i + 1 : Nat) : Int) * 4 = k + 4 + (i : Int) * 4 := by omega
    rw [e, ← ih]
    simp [mk4]

set_option maxHeartbeats 1000000 in
set_option maxRecDepth 100000 in
theorem markEventS_own (base g n cap : Nat) (k : Int) (xs : List I4) (w : World) (hk0 : 0 ≤ k) (hk : k ≤ 1000000000) (hn : n ≤ 1048576) (hl : xs.length = n) (ho : w.ownsRow base 107 4 (.slice (some ⟨g, 0, none⟩) n cap) n (flat4 xs)) :
    Calls Tryd.prog 37 #[.slice (some ⟨g, 0, none⟩) n cap, .int .i64 k] w fun e w' => e = .returned (.int .i64 (k + n * 4)) ∧
      w'.ownsRow base 107 4 (.slice (some ⟨g, 0, none⟩) n cap) n (flat4 (mk4 k xs n)) ∧ w.grownBy w' (some g) := by
  go_enter Tryd.func37, Tryd.ntmps37
  go_wp2
  go_loopw [1, 5] (fun sk si wr => ∃ j : Nat, j ≤ n ∧ si = .int .i64 j ∧ sk = .int .i64 (k + j * 4) ∧ wr.ownsRow base 107 4 (.slice (some ⟨g, 0, none⟩) n cap) n (flat4 (mk4 k xs j)) ∧ w.grownBy wr (some g)) (fun _ si _ => n - (intOf si).toNat)
  case atStart => exact ⟨0, by omega, rfl, by go_num, by simpa [mk4] using ho, World.grownBy.refl _ _⟩
  case round =>
    obtain ⟨j, hj, rfl, rfl, hr, hg⟩ := hrel
    by_cases hlt : j < n
    · have hlt2 : (j : Int) < (n : Int) := by omega
      have hj0 : (0 : Int) ≤ (j : Int) := by omega
      have f0 := hr.frozenAt (j * 4)
      have f1 := hr.frozenAt (j * 4 + 1)
      have f2 := hr.frozenAt (j * 4 + 2)
      have f3 := hr.frozenAt (j * 4 + 3)
      have hlen : (flat4 (mk4 k xs j)).length = n * 4 := by rw [flat4_len, mk4_len, hl]
      obtain ⟨u0, hu0⟩ : ∃ u, wr.cell? ⟨g, j * 4, none⟩ = some u := ⟨_, by rw [hr.cellAt _ (by omega)]; exact List.getElem?_eq_getElem (by omega)⟩
      obtain ⟨u1, hu1⟩ : ∃ u, wr.cell? ⟨g, j * 4 + 1, none⟩ = some u := ⟨_, by rw [hr.cellAt _ (by omega)]; exact List.getElem?_eq_getElem (by omega)⟩
      obtain ⟨u2, hu2⟩ : ∃ u, wr.cell? ⟨g, j * 4 + 2, none⟩ = some u := ⟨_, by rw [hr.cellAt _ (by omega)]; exact List.getElem?_eq_getElem (by omega)⟩
      obtain ⟨u3, hu3⟩ : ∃ u, wr.cell? ⟨g, j * 4 + 3, none⟩ = some u := ⟨_, by rw [hr.cellAt _ (by omega)]; exact List.getElem?_eq_getElem (by omega)⟩
      have R := ((((hr.stored (j * 4) (.int .i64 (k + j * 4))).1.stored (j * 4 + 1) (.int .i64 (k + j * 4 + 1))).1.stored (j * 4 + 2) (.int .i64 (k + j * 4 + 1 + 1))).1.stored (j * 4 + 3) (.int .i64 (k + j * 4 + 1 + 1 + 1))).1
      rw [show (k + (j : Int) * 4 + 1 + 1) = k + j * 4 + 2 by omega, show (k + (j : Int) * 4 + 2 + 1) = k + j * 4 + 3 by omega, mk4_set k xs j (by omega), show (k + (j : Int) * 4 + 3) = k + j * 4 + 2 + 1 by omega, show (k + (j : Int) * 4 + 2) = k + j * 4 + 1 + 1 by omega] at R
      have G := grownBy_tr hg (grownBy_tr (grownBy_set wr g (j * 4) (.int .i64 (k + j * 4))) (grownBy_tr (grownBy_set _ g (j * 4 + 1) (.int .i64 (k + j * 4 + 1))) (grownBy_tr (grownBy_set _ g (j * 4 + 2) (.int .i64 (k + j * 4 + 1 + 1))) (grownBy_set _ g (j * 4 + 3) (.int .i64 (k + j * 4 + 1 + 1 + 1))))))
      clear hr hg ho hlen
      go_wp2
      go_roundw
      case rel => exact ⟨j + 1, by omega, by go_num, by go_num, R, G⟩
      case measure => simp [intOf]; omega
    · obtain rfl : j = n := by omega
      go_wp2
      go_ret
      exact ⟨rfl, hr, hg⟩
theorem markEventS_none (k : Int) (w : World) : Calls Tryd.prog 37 #[.slice none 0 0, .int .i64 k] w fun e w' => e = .returned (.int .i64 k) ∧ w = w' := by
  go_enter Tryd.func37, Tryd.ntmps37
  go_wp2
  refine wp_loop_rounds 1 ?_
  rw [rounds_succ]
  go_wp2
  go_ret
  exact ⟨rfl, rfl⟩
theorem markEventS_any (base : Nat) (v : Value) (k : Int) (xs : List I4) (w : World) (hk0 : 0 ≤ k) (hk : k ≤ 1000000000) (hn : xs.length ≤ 1048576) (ho : w.ownsRow base 107 4 v xs.length (flat4 xs)) :
    Calls Tryd.prog 37 #[v, .int .i64 k] w fun e w' => e = .returned (.int .i64 (k + xs.length * 4)) ∧
      w'.ownsRow base 107 4 v xs.length (flat4 (mk4 k xs xs.length)) ∧ w.grownBy w' v.ownBlock := by
  rcases ho.2 with ⟨rfl, h0⟩ | ⟨g, cap, cur, rfl, _⟩
  · obtain rfl : xs = [] := List.eq_nil_of_length_eq_zero h0
    refine (markEventS_none k w).mono ?_
    rintro e w' ⟨rfl, rfl⟩
    exact ⟨by simp, ho, World.grownBy.refl _ _⟩
  · exact markEventS_own base g _ cap k xs w hk0 hk hn rfl ho

set_option maxHeartbeats 1000000 in
set_option maxRecDepth 100000 in
theorem heldEventS_own (base g n cap : Nat) (k : Int) (xs : List I4) (w : World) (hk0 : 0 ≤ k) (hk : k ≤ 1000000000) (hn : n ≤ 1048576) (hl : xs.length = n) (ho : w.ownsRow base 107 4 (.slice (some ⟨g, 0, none⟩) n cap) n (flat4 (mk4 k xs n))) :
    Calls Tryd.prog 38 #[.slice (some ⟨g, 0, none⟩) n cap, .int .i64 k] w fun e w' => e = .returned (.int .i64 (k + n * 4)) ∧ w = w' := by
  go_enter Tryd.func38, Tryd.ntmps38
  go_wp2
  go_loop [1, 5] (fun sk si => ∃ j : Nat, j ≤ n ∧ si = .int .i64 j ∧ sk = .int .i64 (k + j * 4)) (fun _ si => n - (intOf si).toNat)
  case atStart => exact ⟨0, by omega, rfl, by go_num⟩
  case round =>
    obtain ⟨j, hj, rfl, rfl⟩ := hrel
    by_cases hlt : j < n
    · have hlt2 : (j : Int) < (n : Int) := by omega
      have hj0 : (0 : Int) ≤ (j : Int) := by omega
      obtain ⟨a0, a1, a2, a3⟩ := flat4_at (mk4 k xs n) j (by rw [mk4_len]; omega)
      rw [mk4_get k xs n j hlt (by omega)] at a0 a1 a2 a3
      have c0 : w.cell? ⟨g, j * 4, none⟩ = some (.int .i64 (k + j * 4)) := by rw [ho.cellAt _ (by omega)]; exact a0
      have c1 : w.cell? ⟨g, j * 4 + 1, none⟩ = some (.int .i64 (k + j * 4 + 1)) := by rw [ho.cellAt _ (by omega)]; exact a1
      have c2 : w.cell? ⟨g, j * 4 + 2, none⟩ = some (.int .i64 (k + j * 4 + 1 + 1)) := by rw [ho.cellAt _ (by omega), a2]; simp; omega
      have c3 : w.cell? ⟨g, j * 4 + 3, none⟩ = some (.int .i64 (k + j * 4 + 1 + 1 + 1)) := by rw [ho.cellAt _ (by omega), a3]; simp; omega
      have n0 : ((k + (j : Int) * 4) != (k + (j : Int) * 4)) = false := by simp
      have n1 : ((k + (j : Int) * 4 + 1) != (k + (j : Int) * 4 + 1)) = false := by simp
      have n2 : ((k + (j : Int) * 4 + 1 + 1) != (k + (j : Int) * 4 + 1 + 1)) = false := by simp
      have n3 : ((k + (j : Int) * 4 + 1 + 1 + 1) != (k + (j : Int) * 4 + 1 + 1 + 1)) = false := by simp
      clear ho a0 a1 a2 a3
      go_wp2
      go_round
      case rel => exact ⟨j + 1, by omega, by go_num, by go_num⟩
      case measure => simp [intOf]; omega
    · obtain rfl : j = n := by omega
      clear ho
      go_wp2
      go_ret
      exact ⟨rfl, rfl⟩
theorem heldEventS_none (k : Int) (w : World) : Calls Tryd.prog 38 #[.slice none 0 0, .int .i64 k] w fun e w' => e = .returned (.int .i64 k) ∧ w = w' := by
  go_enter Tryd.func38, Tryd.ntmps38
  go_wp2
  refine wp_loop_rounds 1 ?_
  rw [rounds_succ]
  go_wp2
  go_ret
  exact ⟨rfl, rfl⟩
theorem heldEventS_any (base : Nat) (v : Value) (k : Int) (xs : List I4) (w : World) (hk0 : 0 ≤ k) (hk : k ≤ 1000000000) (hn : xs.length ≤ 1048576) (ho : w.ownsRow base 107 4 v xs.length (flat4 (mk4 k xs xs.length))) :
    Calls Tryd.prog 38 #[v, .int .i64 k] w fun e w' => e = .returned (.int .i64 (k + xs.length * 4)) ∧ w = w' := by
  rcases ho.2 with ⟨rfl, h0⟩ | ⟨g, cap, cur, rfl, _⟩
  · obtain rfl : xs = [] := List.eq_nil_of_length_eq_zero h0
    refine (heldEventS_none k w).mono ?_
    rintro e w' ⟨rfl, rfl⟩
    exact ⟨by simp, rfl⟩
  · exact heldEventS_own base g _ cap k xs w hk0 hk hn rfl ho
end Go.Proofs.YtmhngodbnoonhaaDoor

