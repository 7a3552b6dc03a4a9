
/-
  Both sides' MergeItems.
-/
import Derived.Test.YtleiogcohkfgkaaMgiI
namespace Go.Proofs.Ytleiogcohkfgkaa
open Go.RowKit
set_option linter.unusedVariables false
set_option linter.unusedSimpArgs false

/-- A new row and a code. -/
def PGot (e : Ending) (w' : World) (B : Nat) (xs : List Int) (cd : Int) : Prop := ∃ v, e = .returned (.tuple #[v, .int .i64 cd]) ∧ w'.ownsRow B 3 1 v xs.length (xs.map (Value.int .i64))
def mgC (xs ys : List Int) : Int := if xs.length ≤ 4096 ∧ ys.length ≤ 4096 then (if (allIt xs && allIt ys) = true then 0 else 4) else 2
def mgZ (xs ys : List Int) : List Int := if xs.length ≤ 4096 ∧ ys.length ≤ 4096 ∧ (allIt xs && allIt ys) = true then mrgI (xs ++ ys) else []
theorem mgC_long {xs ys : List Int} (h : ¬ (xs.length ≤ 4096 ∧ ys.length ≤ 4096)) : mgC xs ys = 2 := if_neg h
theorem mgZ_long {xs ys : List Int} (h : ¬ (xs.length ≤ 4096 ∧ ys.length ≤ 4096)) : mgZ xs ys = [] := if_neg (fun e => h ⟨e.1, e.2.1⟩)
theorem mgC_bad {xs ys : List Int} (h : xs.length ≤ 4096) (h' : ys.length ≤ 4096) (k : (allIt xs && allIt ys) = false) : mgC xs ys = 4 := by unfold mgC; rw [if_pos ⟨h, h'⟩, k]; rfl
theorem mgZ_bad {xs ys : List Int} (h : xs.length ≤ 4096) (h' : ys.length ≤ 4096) (k : (allIt xs && allIt ys) = false) : mgZ xs ys = [] := if_neg (fun e => by rw [k] at e; exact absurd e.2.2 (by simp))
theorem mgC_ok {xs ys : List Int} (h : xs.length ≤ 4096) (h' : ys.length ≤ 4096) (k : (allIt xs && allIt ys) = true) : mgC xs ys = 0 := by unfold mgC; rw [if_pos ⟨h, h'⟩, k]; rfl
theorem mgZ_ok {xs ys : List Int} (h : xs.length ≤ 4096) (h' : ys.length ≤ 4096) (k : (allIt xs && allIt ys) = true) : mgZ xs ys = mrgI (xs ++ ys) := if_pos ⟨h, h', k⟩
theorem mgZ_len (xs ys : List Int) : (mgZ xs ys).length ≤ 8192 := by
  unfold mgZ
  split
  · rename_i h
    have := mrgI_len (xs ++ ys)
    simp at this
    omega
  · simp
theorem nil8 (w : World) (B : Nat) : w.ownsRow B 3 1 (.slice none 0 0) ([] : List Int).length (([] : List Int).map (Value.int .i64)) := ⟨rfl, .inl ⟨rfl, rfl⟩⟩
theorem rows_two (w : World) {a a' : Option Addr} {n c n' c' : Nat} {xs ys : List Int} (h : Ints .i64 w a n c xs) (h' : Ints .i64 w a' n' c' ys) : RowsI (w.alloc (.cells #[.slice a n c, .slice a' n' c'] 26)) (some ⟨w.heap.size, 0, none⟩) 2 2 [xs, ys] := by
  have b1 : Below w.heap.size w (w.alloc (.cells #[.slice a n c, .slice a' n' c'] 26)) := by go_grown
  refine ⟨rfl, Nat.le_refl _, by unfold maxLen; omega, [.slice a n c, .slice a' n' c'], ((AllL.nil _).snoc ⟨_, _, _, rfl, h.below b1⟩).snoc ⟨_, _, _, rfl, h'.below b1⟩, .inr ⟨_, _, rfl, by simp, fun t ht => ?_⟩⟩
  match t, ht with
  | 0, _ => simp [go_sem]
  | 1, _ => simp [go_sem]
theorem rows_one (w : World) {a : Option Addr} {n c : Nat} {xs : List Int} (h : Ints .i64 w a n c xs) : RowsI (w.alloc (.cells #[.slice a n c] 26)) (some ⟨w.heap.size, 0, none⟩) 1 1 [xs] := by
  have b1 : Below w.heap.size w (w.alloc (.cells #[.slice a n c] 26)) := by go_grown
  refine ⟨rfl, Nat.le_refl _, by unfold maxLen; omega, [.slice a n c], (AllL.nil _).snoc ⟨_, _, _, rfl, h.below b1⟩, .inr ⟨_, _, rfl, by simp, fun t ht => ?_⟩⟩
  match t, ht with
  | 0, _ => simp [go_sem]
end Go.Proofs.Ytleiogcohkfgkaa
