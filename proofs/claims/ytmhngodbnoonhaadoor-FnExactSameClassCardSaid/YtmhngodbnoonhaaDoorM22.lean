/-
  Joined: Evs, Src.
-/
import Derived.Test.YtmhngodbnoonhaaDoorProg
import Derived.WalkKit
import Derived.WalkSpells
import Derived.WalkLawsBesides
import Derived.RegionTactic
import Derived.BigQuiet
import Derived.Deep.QuietTactic
import Derived.Deep.Slices
import Derived.Deep.Strs
import Derived.Deep.Fields
import Derived.ChangeSame
import Derived.Handy
import Derived.OwnWalk
import Derived.ChangeSlices
import Derived.Lib.SmallJoins
import Derived.Shelf.Abstract
import Derived.Deep.RegionHeld3
import Derived.Laws.BytesArg
import Derived.Deep.RegionLaw
import Derived.Laws.OwnMore
import Derived.Laws.CopyOwn
import Derived.Laws.Tables
import Derived.BigRegion
import Derived.Test.YtmhngodbnoonhaaDoorM01
import Derived.Test.YtmhngodbnoonhaaDoorM02
import Derived.Test.YtmhngodbnoonhaaDoorM07
import Derived.Test.YtmhngodbnoonhaaDoorM21

/-
  Rows of events in memory.
-/
namespace Go.Proofs.YtmhngodbnoonhaaDoor
open Go.RowKit
set_option linter.unusedVariables false
set_option linter.unusedSimpArgs false

def flat4 : List I4 → List Value
  | [] => []
  | x :: xs => [.int .i64 x.1, .int .i64 x.2.1, .int .i64 x.2.2.1, .int .i64 x.2.2.2] ++ flat4 xs
theorem flat4_snoc (es : List I4) (x : I4) : flat4 (es ++ [x]) = flat4 es ++ [.int .i64 x.1, .int .i64 x.2.1, .int .i64 x.2.2.1, .int .i64 x.2.2.2] := by
  induction es with
  | nil => rfl
  | cons y ys ih => simp only [List.cons_append, flat4, ih, List.append_assoc]
theorem flat4_len : ∀ xs : List I4, (flat4 xs).length = xs.length * 4
  | [] => rfl
  | x :: xs => by simp only [flat4, List.length_append, flat4_len xs, List.length_cons, List.length_nil]; omega
theorem flat4_at : ∀ (xs : List I4) (t : Nat), t < xs.length → (flat4 xs)[t * 4]? = some (.int .i64 (xs.getD t (0, 0, 0, 0)).1) ∧ (flat4 xs)[t * 4 + 1]? = some (.int .i64 (xs.getD t (0, 0, 0, 0)).2.1) ∧ (flat4 xs)[t * 4 + 2]? = some (.int .i64 (xs.getD t (0, 0, 0, 0)).2.2.1) ∧ (flat4 xs)[t * 4 + 3]? = some (.int .i64 (xs.getD t (0, 0, 0, 0)).2.2.2)
  | [], t, h => by simp at h
  | x :: xs, 0, _ => ⟨rfl, rfl, rfl, rfl⟩
  | x :: xs, t + 1, h => by
    have ih := flat4_at xs t (by simpa using h)
    have e : (t + 1) * 4 = t * 4 + 1 + 1 + 1 + 1 := by omega
    simp only [flat4, List.cons_append, List.nil_append, e, List.getElem?_cons_succ, List.getD_cons_succ]
    exact ih
def Evs (w : World) (a : Option Addr) (n : Nat) (xs : List I4) : Prop := xs.length = n ∧ n ≤ maxLen ∧ (n = 0 ∨ ∃ g, a = some ⟨g, 0, none⟩ ∧ g < w.heap.size ∧ ∀ t, t < n → w.cell? ⟨g, t * 4, none⟩ = some (.int .i64 (xs.getD t (0, 0, 0, 0)).1) ∧ w.cell? ⟨g, t * 4 + 1, none⟩ = some (.int .i64 (xs.getD t (0, 0, 0, 0)).2.1) ∧ w.cell? ⟨g, t * 4 + 2, none⟩ = some (.int .i64 (xs.getD t (0, 0, 0, 0)).2.2.1) ∧ w.cell? ⟨g, t * 4 + 3, none⟩ = some (.int .i64 (xs.getD t (0, 0, 0, 0)).2.2.2))
theorem evs_slice {w : World} {B : Nat} {v : Value} {xs : List I4} (h : w.ownsRow B 107 4 v xs.length (flat4 xs)) : ∃ a cap, v = .slice a xs.length cap ∧ Evs w a xs.length xs := by
  rcases h.2 with ⟨rfl, h0⟩ | ⟨g, cap, cur, hv, _, _, hnc, hcm, _⟩
  · exact ⟨none, 0, by rw [h0], rfl, by rw [h0]; omega, .inl h0⟩
  · subst hv
    refine ⟨_, cap, rfl, rfl, by omega, .inr ⟨g, rfl, (h.lt g rfl).2, fun t ht => ?_⟩⟩
    obtain ⟨a0, a1, a2, a3⟩ := flat4_at xs t ht
    exact ⟨(h.cellAt _ (by omega)).trans a0, (h.cellAt _ (by omega)).trans a1, (h.cellAt _ (by omega)).trans a2, (h.cellAt _ (by omega)).trans a3⟩
theorem evs_of {w : World} {B cap : Nat} {a : Option Addr} {xs : List I4} (h : w.ownsRow B 107 4 (.slice a xs.length cap) xs.length (flat4 xs)) : Evs w a xs.length xs := by
  obtain ⟨a', c', e, hI⟩ := evs_slice h
  cases e
  exact hI

theorem Evs.below {w w' : World} {a : Option Addr} {n : Nat} {xs : List I4} (h : Evs w a n xs) (hb : Below w.heap.size w w') : Evs w' a n xs := by
  obtain ⟨h1, h2, h3 | ⟨g, rfl, hl, hc⟩⟩ := h
  · exact ⟨h1, h2, .inl h3⟩
  · refine ⟨h1, h2, .inr ⟨g, rfl, Nat.lt_of_lt_of_le hl hb.size, fun t ht => ?_⟩⟩
    obtain ⟨c0, c1, c2, c3⟩ := hc t ht
    exact ⟨(hb.cell (p := ⟨g, _, none⟩) hl).trans c0, (hb.cell (p := ⟨g, _, none⟩) hl).trans c1, (hb.cell (p := ⟨g, _, none⟩) hl).trans c2, (hb.cell (p := ⟨g, _, none⟩) hl).trans c3⟩
end Go.Proofs.YtmhngodbnoonhaaDoor


/-
  The specification's source of choices: byte hands a number from 0 to 255 and goes one place on; nothing but the source's own struct turns.
-/
namespace Go.Proofs.YtmhngodbnoonhaaDoor
open Go.RowKit

def Src (w : World) (p : Nat) (c : Value) (T : Nat) : Prop := ∃ m sd : Nat, w.heap[p]? = some (.cells #[c, .int .i64 m, .int .i64 sd] 123 (0, 0)) ∧ m ≤ T ∧ sd ≤ 2147483647
def Code (w : World) (p : Nat) (a : Option Addr) (n cap : Nat) : Prop := ∃ zs : List Int, Ints .u8 w a n cap zs ∧ (∀ z ∈ zs, 0 ≤ z ∧ z ≤ 255) ∧ n ≤ 1048576 ∧ ∀ x, a = some x → n ≠ 0 → x.block < p

end Go.Proofs.YtmhngodbnoonhaaDoor

