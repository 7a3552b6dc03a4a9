/-
  Joined: StepQ.
-/
import Derived.OwnWalk
import Derived.Laws.BytesArg
import Derived.Deep.RegionLaw
import Derived.Laws.OwnMore
import Derived.BigRegion
import Derived.Laws.CopyOwn
import Derived.Laws.Tables
import Derived.Maps.AppendAt
import Derived.Test.YtdojjmkpelgcaaaDoorN10

namespace Go.Proofs.YtdojjmkpelgcaaaDoor
set_option maxRecDepth 100000
open Go.RowKit
set_option linter.unusedSimpArgs false
set_option linter.unusedVariables false

theorem okI_parts {x : I3} (h : okI x = true) :
  (∃ a q : Nat, x = (1, (a : Int), (q : Int)) ∧ a < 2 ∧ q < 4) ∨ (∃ q a : Nat, x = (2, (q : Int), (a : Int)) ∧ q < 4 ∧ a < 2) ∨ (∃ (a : Nat) (z : Int), x = (3, (a : Int), z) ∧ a < 2) ∨ (∃ (a : Nat) (z : Int), x = (4, (a : Int), z) ∧ a < 2 ∧ 0 ≤ z ∧ z ≤ 9) ∨
  (∃ (a : Nat) (z : Int), x = (5, (a : Int), z) ∧ a < 2) ∨ (∃ (a : Nat) (z : Int), x = (6, (a : Int), z) ∧ a < 2) ∨ (∃ (a : Nat) (z : Int), x = (7, (a : Int), z) ∧ a < 2 ∧ 1 ≤ z ∧ z ≤ 6) ∨ (∃ (a : Nat) (z : Int), x = (8, (a : Int), z) ∧ a < 2) := by
 obtain ⟨o, a, b⟩ := x
 unfold okI at h
 simp only at h
 rcases op_cases (o, a, b) with e | e | e | e | e | e | e | e | e <;> simp only at e
 ·subst e
  simp [inB_true] at h
  exact .inl ⟨a.toNat, b.toNat, by rw [show ((a.toNat : Nat) : Int) = a by omega, show ((b.toNat : Nat) : Int) = b by omega], by omega, by omega⟩
 ·subst e
  simp [inB_true] at h
  exact .inr (.inl ⟨a.toNat, b.toNat, by rw [show ((a.toNat : Nat) : Int) = a by omega, show ((b.toNat : Nat) : Int) = b by omega], by omega, by omega⟩)
 ·subst e
  simp [inB_true] at h
  exact .inr (.inr (.inl ⟨a.toNat, b, by rw [show ((a.toNat : Nat) : Int) = a by omega], by omega⟩))
 ·subst e
  simp [inB_true] at h
  exact .inr (.inr (.inr (.inl ⟨a.toNat, b, by rw [show ((a.toNat : Nat) : Int) = a by omega], by omega, by omega, by omega⟩)))
 ·subst e
  simp [inB_true] at h
  exact .inr (.inr (.inr (.inr (.inl ⟨a.toNat, b, by rw [show ((a.toNat : Nat) : Int) = a by omega], by omega⟩))))
 ·subst e
  simp [inB_true] at h
  exact .inr (.inr (.inr (.inr (.inr (.inl ⟨a.toNat, b, by rw [show ((a.toNat : Nat) : Int) = a by omega], by omega⟩)))))
 ·subst e
  simp [inB_true] at h
  exact .inr (.inr (.inr (.inr (.inr (.inr (.inl ⟨a.toNat, b, by rw [show ((a.toNat : Nat) : Int) = a by omega], by omega, by omega, by omega⟩))))))
 ·subst e
  simp [inB_true] at h
  exact .inr (.inr (.inr (.inr (.inr (.inr (.inr ⟨a.toNat, b, by rw [show ((a.toNat : Nat) : Int) = a by omega], by omega⟩))))))
 ·obtain ⟨e1, e2, e3, e4, e5, e6, e7, e8⟩ := e
  simp [e1, e2, e3, e4, e5, e6, e7, e8] at h
section
variable (m : V4) (k a q : Nat) (z : Int)
end




end Go.Proofs.YtdojjmkpelgcaaaDoor
