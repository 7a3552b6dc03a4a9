/-
  Joined: Tab, OrdP, NrmP, NrmQ, MatP, NrmS, NorS, ScI.
-/
import Derived.IntWalk
import Derived.Recover
import Derived.Shelf.SlSortCmp.NoneTotal
import Derived.Shelf.Spec.SlicesGrow
import Derived.Laws.AppendOwnNone
import Derived.Lib.SliceRun
import Derived.Deep.MidRow
import Derived.Test.YtcdpcfnlflpjnaaGreatDoorW28

namespace Go.Proofs.YtcdpcfnlflpjnaaGreatDoor
set_option maxRecDepth 100000
open Go.RowKit
set_option linter.unusedVariables false

def tab (n : Nat) (f : Nat → Value) : List Value := (List.range n).map f
def tab2 (n : Nat) (F : Nat → Nat → Bool) : List Value := tab (n * n) fun j => .bool (F (j / n) (j % n))


inductive Bef (D : Nat → Nat → Bool) : Nat → Nat → Prop
 | one {i k : Nat} : i < k → D i k = true → Bef D i k
 | more {i j k : Nat} : Bef D i j → j < k → D j k = true → Bef D i k
theorem Bef.trans {D : Nat → Nat → Bool} {i j k : Nat} (h : Bef D i j) (g : Bef D j k) : Bef D i k := by
 induction g with
 | one h1 h2 => exact .more h h1 h2
 | more _ h1 h2 ih => exact .more ih h1 h2


def bestS (ok : Nat → Bool) (th : Nat → Nat) : Nat → Option Nat
 | 0 => none
 | n + 1 => if ok n then (match bestS ok th n with | none => some n | some b => if th n < th b then some n else some b) else bestS ok th n
def allU (B : Nat → Nat → Bool) (used : Nat → Bool) (k : Nat) : Nat → Bool
 | 0 => true
 | n + 1 => allU B used k n && (used n || !B n k)
def okU (B : Nat → Nat → Bool) (n : Nat) (used : Nat → Bool) (k : Nat) : Bool := !used k && allU B used k n
def stS (B : Nat → Nat → Bool) (th : Nat → Nat) (n : Nat) : Nat → (Nat → Bool) × List Nat
 | 0 => (fun _ => false, [])
 | s + 1 => match bestS (okU B n (stS B th n s).1) th n with
  | none => stS B th n s
  | some b => (fun i => (stS B th n s).1 i || i == b, (stS B th n s).2 ++ [th b])


theorem depM_symm (x y : I4) : depM x y = depM y x := by
 unfold depM
 by_cases h1 : x.1 = y.1
 ·simp [h1]
 ·have h1' : ¬ y.1 = x.1 := fun e => h1 e.symm
  by_cases h2 : x.2.2.2 = y.2.2.2
  ·simp only [h1, h1', h2, decide_false, Bool.false_or, decide_true, Bool.and_true]
   rw [Bool.and_comm (decide (x.2.2.1 = 1))]
  ·have h2' : ¬ y.2.2.2 = x.2.2.2 := fun e => h2 e.symm
   simp [h1, h1', h2, h2']
def Sw1 (es es' : List I4) : Prop := ∃ a x y b, es = a ++ x :: y :: b ∧ es' = a ++ y :: x :: b ∧ depM x y = false
inductive Sw : List I4 → List I4 → Prop
 | refl (es : List I4) : Sw es es
 | step {es es' es'' : List I4} : Sw es es' → Sw1 es' es'' → Sw es es''
theorem Sw1.symm {es es' : List I4} (h : Sw1 es es') : Sw1 es' es := by
 obtain ⟨a, x, y, b, h1, h2, h3⟩ := h
 exact ⟨a, y, x, b, h2, h1, by rw [depM_symm]; exact h3⟩
theorem Sw.trans {a b c : List I4} (h : Sw a b) (g : Sw b c) : Sw a c := by
 induction g with
 | refl => exact h
 | step _ s ih => exact .step ih s
theorem Sw.symm {a b : List I4} (h : Sw a b) : Sw b a := by
 induction h with
 | refl => exact .refl _
 | step _ s ih => exact (Sw.step (.refl _) s.symm).trans ih


noncomputable def befB (D : Nat → Nat → Bool) (i k : Nat) : Bool := @decide (Bef D i k) (Classical.propDecidable _)


def evAt (es : List I4) (i : Nat) : I4 := es.getD i (0, 0, 0, 0)
def thE (es : List I4) (i : Nat) : Nat := (evAt es i).1.toNat
def depE (es : List I4) (i k : Nat) : Bool := depM (evAt es i) (evAt es k)

set_option linter.unusedSimpArgs false

theorem owns_sliceN {w : World} {B e s n : Nat} {v : Value} {xs : List Value} (h : w.ownsRow B e s v n xs) : ∃ a cap, v = .slice a n cap := by
 rcases h.2 with ⟨rfl, rfl⟩ | ⟨g, cap, cur, rfl, _⟩
 ·exact ⟨_, _, rfl⟩
 ·exact ⟨_, _, rfl⟩
noncomputable def stN (es : List I4) (s : Nat) : (Nat → Bool) × List Nat := stS (befB (depE es)) (thE es) es.length s
def OnNor (w wr : World) (gO gU : Nat) (es : List I4) (n s : Nat) (vo : Value) : Prop :=
 Blk wr gO 4 (tab2 n (befB (depE es))) ∧ Blk wr gU 4 (tab n fun j => .bool ((stN es s).1 j)) ∧ wr.ownsRow w.heap.size 3 1 vo s (((stN es s).2.map (fun t : Nat => (t : Int))).map (Value.int .i64)) ∧ Below w.heap.size w wr ∧ gO < wr.heap.size
theorem OnNor.drewN {w wr : World} {gO gU : Nat} {es : List I4} {n s : Nat} {vo : Value} (h : OnNor w wr gO gU es n s vo) (d : Nat) : OnNor w (wr.drewN d) gO gU es n s vo :=
 ⟨h.1.drewN d, h.2.1.drewN d, owns_below h.2.2.1 (below_dN d), bel_trans h.2.2.2.1 (below_dN d), h.2.2.2.2⟩


theorem ints_of_row {w : World} {B n c : Nat} {a : Option Addr} {xs : List Int} (h : w.ownsRow B 3 1 (.slice a n c) n (xs.map (Value.int .i64))) : Ints .i64 w a n c xs := by
 have hl := h.1
 rw [List.length_map, Nat.mul_one] at hl
 rcases h.2 with ⟨h1, h2⟩ | ⟨g, cap, cur, h1, _, _, h3, h4, _⟩
 ·cases h1
  exact ⟨hl, Nat.le_refl _, Nat.zero_le _, .inl rfl⟩
 ·cases h1
  exact Ints.of_owns h
end Go.Proofs.YtcdpcfnlflpjnaaGreatDoor
