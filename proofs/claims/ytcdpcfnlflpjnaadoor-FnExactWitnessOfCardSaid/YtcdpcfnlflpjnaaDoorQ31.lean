/-
  Joined: OrdP, NrmQ, NorS, Src, Src2, TextS, Take.
-/
import Derived.Test.YtcdpcfnlflpjnaaDoorProg
import Derived.Deep.RegionHeld3
import Derived.KernelRfl
import Derived.Tactics
import Derived.WalkKit
import Derived.WalkSpells
import Derived.WalkLawsBesides
import Derived.RegionTactic
import Derived.BigQuiet
import Derived.Deep.QuietTactic
import Derived.Deep.Slices
import Derived.Deep.Strs
import Derived.Deep.Fields
import Derived.ChangeSame
import Derived.Handy
import Derived.ChangeSlices
import Derived.Lib.SmallJoins
import Derived.OwnWalk
import Derived.Shelf.Abstract
import Derived.Laws.BytesArg
import Derived.Deep.RegionLaw
import Derived.Laws.OwnMore
import Derived.Laws.CopyOwn
import Derived.Laws.Tables
import Derived.BigRegion
import Derived.Maps.AppendAt
import Derived.IntWalk
import Derived.Laws.RangeString
import Derived.Laws.RangeAny
import Derived.Laws.Bits
import Derived.Test.YtcdpcfnlflpjnaaDoorQ01
import Derived.Test.YtcdpcfnlflpjnaaDoorQ02
import Derived.Test.YtcdpcfnlflpjnaaDoorQ30

/-
  What must be ahead of what, in plain words: the order of events by numbers, and the clocks that tell it.
-/
namespace Go.Proofs.YtcdpcfnlflpjnaaDoor
set_option linter.unusedVariables false

inductive Bef (D : Nat → Nat → Bool) : Nat → Nat → Prop
  | one {i k : Nat} : i < k → D i k = true → Bef D i k
  | more {i j k : Nat} : Bef D i j → j < k → D j k = true → Bef D i k
theorem Bef.lt {D : Nat → Nat → Bool} {i k : Nat} (h : Bef D i k) : i < k := by
  induction h with
  | one h _ => exact h
  | more _ h _ ih => omega
theorem Bef.trans {D : Nat → Nat → Bool} {i j k : Nat} (h : Bef D i j) (g : Bef D j k) : Bef D i k := by
  induction g with
  | one h1 h2 => exact .more h h1 h2
  | more _ h1 h2 ih => exact .more ih h1 h2
end Go.Proofs.YtcdpcfnlflpjnaaDoor


/-
  Normal forms of rows of events: the free event of the least thread first; they are the same for rows that differ by neighbours which do not depend on one another.
-/
namespace Go.Proofs.YtcdpcfnlflpjnaaDoor
set_option linter.unusedVariables false

theorem depM_symm (x y : I4) : depM x y = depM y x := by
  unfold depM
  by_cases h1 : x.1 = y.1
  · simp [h1]
  · have h1' : ¬ y.1 = x.1 := fun e => h1 e.symm
    by_cases h2 : x.2.2.2 = y.2.2.2
    · simp only [h1, h1', h2, decide_false, Bool.false_or, decide_true, Bool.and_true]
      rw [Bool.and_comm (decide (x.2.2.1 = 1))]
    · have h2' : ¬ y.2.2.2 = x.2.2.2 := fun e => h2 e.symm
      simp [h1, h1', h2, h2']
def Sw1 (es es' : List I4) : Prop := ∃ a x y b, es = a ++ x :: y :: b ∧ es' = a ++ y :: x :: b ∧ depM x y = false
inductive Sw : List I4 → List I4 → Prop
  | refl (es : List I4) : Sw es es
  | step {es es' es'' : List I4} : Sw es es' → Sw1 es' es'' → Sw es es''
theorem Sw1.symm {es es' : List I4} (h : Sw1 es es') : Sw1 es' es := by
  obtain ⟨a, x, y, b, h1, h2, h3⟩ := h
  exact ⟨a, y, x, b, h2, h1, by rw [depM_symm]; exact h3⟩
theorem Sw.trans {a b c : List I4} (h : Sw a b) (g : Sw b c) : Sw a c := by
  induction g with
  | refl => exact h
  | step _ s ih => exact .step ih s
theorem Sw.symm {a b : List I4} (h : Sw a b) : Sw b a := by
  induction h with
  | refl => exact .refl _
  | step _ s ih => exact (Sw.step (.refl _) s.symm).trans ih
end Go.Proofs.YtcdpcfnlflpjnaaDoor


/-
  The specification's l05Normal: the normal form of a row of events.
-/
namespace Go.Proofs.YtcdpcfnlflpjnaaDoor
open Go.RowKit
set_option linter.unusedVariables false
set_option linter.unusedSimpArgs false

theorem owns_sliceN {w : World} {B e s n : Nat} {v : Value} {xs : List Value} (h : w.ownsRow B e s v n xs) : ∃ a cap, v = .slice a n cap := by
  rcases h.2 with ⟨rfl, rfl⟩ | ⟨g, cap, cur, rfl, _⟩
  · exact ⟨_, _, rfl⟩
  · exact ⟨_, _, rfl⟩
end Go.Proofs.YtcdpcfnlflpjnaaDoor


/-
  The specification's source of choices: byte hands a number from 0 to 255 and goes one place on; nothing but the source's own struct turns.
-/
namespace Go.Proofs.YtcdpcfnlflpjnaaDoor
open Go.RowKit

def Code (w : World) (p : Nat) (a : Option Addr) (n cap : Nat) : Prop := ∃ zs : List Int, Ints .u8 w a n cap zs ∧ (∀ z ∈ zs, 0 ≤ z ∧ z ≤ 255) ∧ n ≤ 1048576 ∧ ∀ x, a = some x → n ≠ 0 → x.block < p

end Go.Proofs.YtcdpcfnlflpjnaaDoor


/-
  The specification's source of choices, more of it: next hands a number below n; a source over a code; how what it hands is kept apart from all else.
-/
namespace Go.Proofs.YtcdpcfnlflpjnaaDoor
open Go.RowKit

abbrev Went (p : Nat) (w w' : World) : Prop := w.grownBy w' (some p)
theorem Went.trans {p : Nat} {a b c : World} (h : Went p a b) (k : Went p b c) : Went p a c :=
  ⟨k.os.trans h.os, k.tape.trans h.tape, k.output.trans h.output, Nat.le_trans h.size k.size, fun i hi hne => (k.block i (Nat.lt_of_lt_of_le hi h.size) hne).trans (h.block i hi hne)⟩
theorem Went.below {p : Nat} {w w' : World} (h : Went p w w') (hp : p ≤ w.heap.size) : Below p w w' :=
  (Below.refl _ _).grown h hp (fun k e => by cases e; exact Nat.le_refl _)
theorem Went.alloc {p : Nat} {w w' : World} (h : Went p w w') (o : Obj) : Went p w (w'.alloc o) := h.trans (World.grownBy_alloc w' o _)
theorem Went.refl (p : Nat) (w : World) : Went p w w := World.grownBy.refl _ _
theorem Went.grown {p : Nat} {w w' w'' : World} {row : Option Nat} (h : Went p w w') (g : w'.grownBy w'' row) (hr : ∀ k, row = some k → w.heap.size ≤ k) : Went p w w'' :=
  ⟨g.os.trans h.os, g.tape.trans h.tape, g.output.trans h.output, Nat.le_trans h.size g.size, fun i hi hne => (g.block i (Nat.lt_of_lt_of_le hi h.size) (fun e => by have := hr i e.symm; omega)).trans (h.block i hi hne)⟩
theorem Code.below {p n cap : Nat} {a : Option Addr} {w w' : World} (h : Code w p a n cap) (hb : Below p w w') : Code w' p a n cap := by
  obtain ⟨zs, ⟨h1, h2, h3, h4⟩, h5, h6, h7⟩ := h
  refine ⟨zs, ⟨h1, h2, h3, ?_⟩, h5, h6, h7⟩
  rcases h4 with h4 | ⟨b, off, ha, hlt, hc⟩
  · exact .inl h4
  · rcases Nat.eq_zero_or_pos n with h0 | h0
    · exact .inl h0
    · have hbB := h7 _ ha (by omega)
      exact .inr ⟨b, off, ha, by have := hb.size; omega, fun t ht => by rw [hb.cell (p := ⟨b, off + t, none⟩) hbB]; exact hc t ht⟩
end Go.Proofs.YtcdpcfnlflpjnaaDoor


/-
  spec.l02Text: an instruction's text.
-/
namespace Go.Proofs.YtcdpcfnlflpjnaaDoor
open Go.RowKit

def opWL : List (List UInt8) := [[], [108, 111, 97, 100], [115, 116, 111, 114, 101], [115, 101, 116], [97, 100, 100], [108, 111, 99, 107], [117, 110, 108, 111, 99, 107], [106, 117, 109, 112], [97, 115, 115, 101, 114, 116]]
def opB (k : Nat) : ByteArray := ⟨(opWL.getD k []).toArray⟩

end Go.Proofs.YtcdpcfnlflpjnaaDoor


/-
  Plain mathematics of reading a number from bytes, no program in it: where it ends, its value, that it is the only one; what a range over runes meets.
-/
namespace Go.Proofs.YtcdpcfnlflpjnaaDoor

def bt (s : ByteArray) (k : Nat) : Nat := if h : k < s.size then (s[k]'h).toNat else 0
def hv (s : ByteArray) (p k : Nat) : Nat → Nat
  | 0 => 0
  | j + 1 => hv s p k j * 128 + bt s (p + k - 1 - j) % 128
end Go.Proofs.YtcdpcfnlflpjnaaDoor

