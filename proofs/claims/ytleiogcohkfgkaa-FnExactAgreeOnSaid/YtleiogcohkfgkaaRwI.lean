
/-
  Rows of rows of integers that are only read.
-/
import Derived.Test.YtleiogcohkfgkaaInts0
namespace Go.Proofs.Ytleiogcohkfgkaa
open Go.RowKit
set_option linter.unusedVariables false
set_option linter.unusedSimpArgs false

/-- A value is a row of integers that lies there. -/
def IsL (w : World) (v : Value) (xs : List Int) : Prop := ∃ la ln lc, v = .slice la ln lc ∧ Ints .i64 w la ln lc xs
theorem IsL.below {w w' : World} {v : Value} {xs : List Int} (h : IsL w v xs) (hb : Below w.heap.size w w') : IsL w' v xs := by
  obtain ⟨la, ln, lc, rfl, hi⟩ := h
  exact ⟨la, ln, lc, rfl, hi.below hb⟩
/-- The rows lie there, one behind the other. -/
def AllL (w : World) (vs : List Value) (xss : List (List Int)) : Prop := vs.length = xss.length ∧ ∀ t, t < xss.length → IsL w (vs.getD t undef) (xss.getD t [])
theorem AllL.below {w w' : World} {vs : List Value} {xss : List (List Int)} (h : AllL w vs xss) (hb : Below w.heap.size w w') : AllL w' vs xss := ⟨h.1, fun t ht => (h.2 t ht).below hb⟩
theorem AllL.nil (w : World) : AllL w [] [] := ⟨rfl, fun t ht => by simp at ht⟩
theorem AllL.snoc {w : World} {vs : List Value} {xss : List (List Int)} {v : Value} {xs : List Int} (h : AllL w vs xss) (hv : IsL w v xs) : AllL w (vs ++ [v]) (xss ++ [xs]) := by
  refine ⟨by simp [h.1], fun t ht => ?_⟩
  by_cases h9 : t < xss.length
  · have e1 : (vs ++ [v]).getD t undef = vs.getD t undef := by simp [List.getD, List.getElem?_append_left (show t < vs.length by have := h.1; omega)]
    have e2 : (xss ++ [xs]).getD t [] = xss.getD t [] := by simp [List.getD, List.getElem?_append_left h9]
    rw [e1, e2]
    exact h.2 t h9
  · have e9 : t = xss.length := by simp at ht; omega
    subst e9
    have e1 : (vs ++ [v]).getD xss.length undef = v := by rw [← h.1]; simp [List.getD]
    have e2 : (xss ++ [xs]).getD xss.length [] = xs := by simp [List.getD]
    rw [e1, e2]
    exact hv
/-- A slice of rows in memory: its cells, and the rows that they are. -/
def RowsI (w : World) (a : Option Addr) (n c : Nat) (xss : List (List Int)) : Prop :=
  xss.length = n ∧ n ≤ c ∧ c ≤ maxLen ∧ ∃ vs, AllL w vs xss ∧ (n = 0 ∨ ∃ b off, a = some ⟨b, off, none⟩ ∧ b < w.heap.size ∧ ∀ t, t < n → w.cell? ⟨b, off + t, none⟩ = some (vs.getD t undef))
theorem RowsI.below {w w' : World} {a : Option Addr} {n c : Nat} {xss : List (List Int)} (h : RowsI w a n c xss) (hb : Below w.heap.size w w') : RowsI w' a n c xss := by
  obtain ⟨h1, h2, h3, vs, h4, h5⟩ := h
  refine ⟨h1, h2, h3, vs, h4.below hb, ?_⟩
  rcases h5 with h5 | ⟨b, off, h6, h7, h8⟩
  · exact .inl h5
  · exact .inr ⟨b, off, h6, Nat.lt_of_lt_of_le h7 hb.size, fun t ht => by rw [hb.cell (p := ⟨b, off + t, none⟩) h7]; exact h8 t ht⟩
theorem RowsI.cell {w : World} {a : Option Addr} {n c : Nat} {xss : List (List Int)} (h : RowsI w a n c xss) {t : Nat} (ht : t < n) : ∃ b off la ln lc, a = some ⟨b, off, none⟩ ∧ w.cell? ⟨b, off + t, none⟩ = some (.slice la ln lc) ∧ Ints .i64 w la ln lc (xss.getD t []) := by
  obtain ⟨h1, h2, h3, vs, h4, h5⟩ := h
  rcases h5 with h5 | ⟨b, off, h6, h7, h8⟩
  · omega
  · obtain ⟨la, ln, lc, e, hi⟩ := h4.2 t (by omega)
    exact ⟨b, off, la, ln, lc, h6, by rw [h8 t ht, e], hi⟩
/-- A row of rows of our own is one. -/
theorem RowsI.own {w : World} {B n c : Nat} {a : Option Addr} {vs : List Value} {xss : List (List Int)} (h : w.ownsRow B 26 1 (.slice a n c) n vs) (hl : xss.length = n) (hA : AllL w vs xss) : RowsI w a n c xss := by
  rcases h.2 with ⟨e, h0⟩ | ⟨b, cc, cur, e, h1, h2, h3, h4⟩
  · cases e
    exact ⟨by omega, by omega, by unfold maxLen; omega, vs, hA, .inl (by omega)⟩
  · cases e
    refine ⟨hl, by omega, by omega, vs, hA, .inr ⟨b, 0, rfl, (h.lt b rfl).2, fun t ht => ?_⟩⟩
    rw [Nat.zero_add, h.cellAt t (by omega)]
    have hq := hA.1
    simp [List.getD, show t < vs.length by omega]
end Go.Proofs.Ytleiogcohkfgkaa
