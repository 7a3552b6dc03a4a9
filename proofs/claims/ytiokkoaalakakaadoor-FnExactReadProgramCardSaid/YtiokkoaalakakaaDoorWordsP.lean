/-
  Plain mathematics of a text's words: what lies between blanks, byte by byte; Go's strings.FieldsFunc at 'is it a blank' finds the same.
-/
import Derived.Test.YtiokkoaalakakaaDoorTake
import Derived.Lib.FieldsP
namespace Go.Proofs.YtiokkoaalakakaaDoor
open Go.Lib

/-- Byte by byte: the spans that are closed, and where an open one began. -/
def spansB (s : ByteArray) : Nat → Nat → Option Nat → List (Nat × Nat) → List (Nat × Nat) × Option Nat
  | 0, _, st, acc => (acc, st)
  | f + 1, pos, st, acc =>
    if pos < s.size then
      (if bt s pos = 32 then
        (match st with
         | some a => spansB s f (pos + 1) none (acc ++ [(a, pos)])
         | none => spansB s f (pos + 1) none acc)
       else
        (match st with
         | some a => spansB s f (pos + 1) (some a) acc
         | none => spansB s f (pos + 1) (some pos) acc))
    else (acc, st)

theorem spansB_end (s : ByteArray) (f pos : Nat) (st : Option Nat) (acc : List (Nat × Nat)) (h : ¬ pos < s.size) : spansB s f pos st acc = (acc, st) := by
  cases f with
  | zero => rfl
  | succ f => simp [spansB, h]
theorem spansB_blank_some {s : ByteArray} {f pos a : Nat} {acc : List (Nat × Nat)} (h : pos < s.size) (hb : bt s pos = 32) : spansB s (f + 1) pos (some a) acc = spansB s f (pos + 1) none (acc ++ [(a, pos)]) := by
  simp [spansB, h, hb]
theorem spansB_blank_none {s : ByteArray} {f pos : Nat} {acc : List (Nat × Nat)} (h : pos < s.size) (hb : bt s pos = 32) : spansB s (f + 1) pos none acc = spansB s f (pos + 1) none acc := by
  simp [spansB, h, hb]
theorem spansB_word {s : ByteArray} {f pos : Nat} {st : Option Nat} {acc : List (Nat × Nat)} (h : pos < s.size) (hb : bt s pos ≠ 32) : spansB s (f + 1) pos st acc = spansB s f (pos + 1) (some (st.getD pos)) acc := by
  cases st <;> simp [spansB, h, hb]
/-- Several bytes that are no blanks. -/
theorem spansB_run {s : ByteArray} : ∀ (k : Nat) {f pos : Nat} {st : Option Nat} {acc : List (Nat × Nat)}, k < f → pos + k < s.size → (∀ j, j ≤ k → bt s (pos + j) ≠ 32) → spansB s f pos st acc = spansB s (f - (k + 1)) (pos + (k + 1)) (some (st.getD pos)) acc
  | 0, f, pos, st, acc, hf, hs, hb => by
    obtain ⟨g, rfl⟩ : ∃ g, f = g + 1 := ⟨f - 1, by omega⟩
    rw [spansB_word (by omega) (by simpa using hb 0 (Nat.le_refl _))]
    simp
  | k + 1, f, pos, st, acc, hf, hs, hb => by
    obtain ⟨g, rfl⟩ : ∃ g, f = g + 1 := ⟨f - 1, by omega⟩
    rw [spansB_word (by omega) (by simpa using hb 0 (by omega)), spansB_run k (by omega) (by omega) (fun j hj => by have := hb (j + 1) (by omega); rwa [show pos + (j + 1) = pos + 1 + j by omega] at this)]
    have e1 : g - (k + 1) = g + 1 - (k + 1 + 1) := by omega
    have e2 : pos + 1 + (k + 1) = pos + (k + 1 + 1) := by omega
    rw [e1, e2]
    simp

def isBl (r : Nat) : Bool := r == 32

theorem spans_same (s : ByteArray) : ∀ (f pos g : Nat) (st : Option Nat) (acc : List (Nat × Nat)), s.size ≤ pos + f → s.size ≤ pos + g → spansFromP isBl s f pos st acc = spansB s g pos st acc
  | 0, pos, g, st, acc, hf, hg => by
    rw [spansB_end _ _ _ _ _ (by omega)]
    rfl
  | f + 1, pos, g, st, acc, hf, hg => by
    by_cases hp : pos < s.size
    · obtain ⟨h, rfl⟩ : ∃ h, g = h + 1 := ⟨g - 1, by omega⟩
      by_cases ha : bt s pos < 128
      · have hd : Utf8.decode s pos = (bt s pos, 1) := by
          rw [decode_ascii s pos hp (by rw [bt_get]; exact ha), bt_get]
        by_cases hb : bt s pos = 32
        · cases st with
          | none =>
            rw [spansB_blank_none hp hb]
            simp only [spansFromP, hp, hd, hb, if_true]
            exact spans_same s f (pos + 1) h none acc (by omega) (by omega)
          | some a =>
            rw [spansB_blank_some hp hb]
            simp only [spansFromP, hp, hd, hb, if_true]
            exact spans_same s f (pos + 1) h none _ (by omega) (by omega)
        · have hq : isBl (bt s pos) = false := by simp [isBl, hb]
          rw [spansB_word hp hb]
          cases st with
          | none =>
            simp only [spansFromP, hp, hd, hq, if_true, Option.getD_none]
            exact spans_same s f (pos + 1) h (some pos) acc (by omega) (by omega)
          | some a =>
            simp only [spansFromP, hp, hd, hq, if_true, Option.getD_some]
            exact spans_same s f (pos + 1) h (some a) acc (by omega) (by omega)
      · have hsp := decode_span s pos hp (by omega)
        have hh := decode_high s pos hp (by rw [bt_get]; omega)
        have hq : isBl (Utf8.decode s pos).1 = false := by simp [isBl]; omega
        obtain ⟨k, hk⟩ : ∃ k, (Utf8.decode s pos).2 = k + 1 := ⟨(Utf8.decode s pos).2 - 1, by omega⟩
        have hend := (hsp k (by omega)).1
        rw [spansB_run k (by omega) hend (fun j hj => by have := (hsp j (by omega)).2; omega)]
        cases st with
        | none =>
          simp only [spansFromP, hp, hq, if_true, hk, Option.getD_none]
          exact spans_same s f (pos + (k + 1)) _ (some pos) acc (by omega) (by omega)
        | some a =>
          simp only [spansFromP, hp, hq, if_true, hk, Option.getD_some]
          exact spans_same s f (pos + (k + 1)) _ (some a) acc (by omega) (by omega)
    · rw [spansB_end _ _ _ _ _ hp]
      simp [spansFromP, hp]

/-- A text's words. -/
def wordsT (s : ByteArray) : List ByteArray := goFieldsP isBl s

/-- The words of the spans so far. -/
def cutAll (s : ByteArray) (l : List (Nat × Nat)) : List ByteArray := l.map fun x => s.extract x.1 x.2

theorem wordsT_is (s : ByteArray) : wordsT s = cutAll s (closeSpans s (spansB s s.size 0 none [])) := by
  unfold wordsT goFieldsP spansOfP cutAll
  rw [spans_same s s.size 0 s.size none [] (by omega) (by omega)]

theorem spans_count (s : ByteArray) : ∀ (f pos : Nat) (st : Option Nat) (acc : List (Nat × Nat)), (closeSpans s (spansB s f pos st acc)).length ≤ acc.length + 1 + f
  | 0, pos, st, acc => by cases st <;> simp [spansB, closeSpans]
  | f + 1, pos, st, acc => by
    by_cases hp : pos < s.size
    · by_cases hb : bt s pos = 32
      · cases st with
        | none =>
          rw [spansB_blank_none hp hb]
          have := spans_count s f (pos + 1) none acc
          omega
        | some a =>
          rw [spansB_blank_some hp hb]
          have := spans_count s f (pos + 1) none (acc ++ [(a, pos)])
          simp at this
          omega
      · rw [spansB_word hp hb]
        have := spans_count s f (pos + 1) (some (st.getD pos)) acc
        omega
    · rw [spansB_end _ _ _ _ _ hp]
      cases st <;> simp [closeSpans] <;> omega
theorem wordsT_count (s : ByteArray) : (wordsT s).length ≤ s.size + 1 := by
  rw [wordsT_is, cutAll, List.length_map]
  have := spans_count s s.size 0 none []
  simp at this
  omega
end Go.Proofs.YtiokkoaalakakaaDoor
