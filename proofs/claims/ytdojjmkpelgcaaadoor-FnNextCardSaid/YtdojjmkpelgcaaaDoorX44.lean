/-
  Joined: RpD, NrmQ.
-/
import Derived.Recover
import Derived.Test.YtdojjmkpelgcaaaDoorX10
import Derived.Test.YtdojjmkpelgcaaaDoorX38
import Derived.Test.YtdojjmkpelgcaaaDoorX43

namespace Go.Proofs.YtdojjmkpelgcaaaDoor
set_option maxRecDepth 100000
open Go.RowKit
set_option linter.unusedVariables false
set_option linter.unusedSimpArgs false

def ListAt (w : World) (B : Nat) (a : Option Addr) (n c : Nat) (ks : List Int) : Prop :=
 Ints .i64 w a n c ks ∧ ∀ b o, a = some ⟨b, o, none⟩ → 0 < n → b < B ∨ ∃ cur fz, w.heap[b]? = some (Obj.cells cur 3 fz)
theorem ListAt.kept {w w' : World} {B : Nat} {a : Option Addr} {n c : Nat} {ks : List Int} (h : ListAt w B a n c ks) (hb : Below B w w') (hk : RunKept w w') : ListAt w' B a n c ks := by
 obtain ⟨⟨h1, h2, h3, h4⟩, h5⟩ := h
 rcases Nat.eq_zero_or_pos n with hn | hn
 ·exact ⟨⟨h1, h2, h3, .inl hn⟩, fun _ _ _ h0 => absurd hn (by omega)⟩
 rcases h4 with h4 | ⟨b, off, ha, hl, hc⟩
 ·omega
 have e : w'.heap[b]? = w.heap[b]? := by
  rcases h5 b off ha hn with h6 | ⟨cur, fz, h6⟩
  ·exact hb.block b h6
  ·rw [hk b cur _ fz h6 (by decide) (by decide), h6]
 refine ⟨⟨h1, h2, h3, .inr ⟨b, off, ha, Nat.lt_of_lt_of_le hl hb.size, fun t ht => ?_⟩⟩, fun b' o' ha' h0 => ?_⟩
 ·rw [← hc t ht]
  unfold World.cell?
  simp only
  rw [e]
 ·rw [ha] at ha'
  cases ha'
  rcases h5 b off ha hn with h6 | ⟨cur, fz, h6⟩
  ·exact .inl h6
  ·exact .inr ⟨cur, fz, e.trans h6⟩


theorem depM_symm (x y : I4) : depM x y = depM y x := by
 unfold depM
 by_cases h1 : x.1 = y.1
 ·simp [h1]
 ·have h1' : ¬ y.1 = x.1 := fun e => h1 e.symm
  by_cases h2 : x.2.2.2 = y.2.2.2
  ·simp only [h1, h1', h2, decide_false, Bool.false_or, decide_true, Bool.and_true]
   rw [Bool.and_comm (decide (x.2.2.1 = 1))]
  ·have h2' : ¬ y.2.2.2 = x.2.2.2 := fun e => h2 e.symm
   simp [h1, h1', h2, h2']
def Sw1 (es es' : List I4) : Prop := ∃ a x y b, es = a ++ x :: y :: b ∧ es' = a ++ y :: x :: b ∧ depM x y = false
inductive Sw : List I4 → List I4 → Prop
 | refl (es : List I4) : Sw es es
 | step {es es' es'' : List I4} : Sw es es' → Sw1 es' es'' → Sw es es''
theorem Sw1.symm {es es' : List I4} (h : Sw1 es es') : Sw1 es' es := by
 obtain ⟨a, x, y, b, h1, h2, h3⟩ := h
 exact ⟨a, y, x, b, h2, h1, by rw [depM_symm]; exact h3⟩
theorem Sw.trans {a b c : List I4} (h : Sw a b) (g : Sw b c) : Sw a c := by
 induction g with
 | refl => exact h
 | step _ s ih => exact .step ih s
theorem Sw.symm {a b : List I4} (h : Sw a b) : Sw b a := by
 induction h with
 | refl => exact .refl _
 | step _ s ih => exact (Sw.step (.refl _) s.symm).trans ih
end Go.Proofs.YtdojjmkpelgcaaaDoor
