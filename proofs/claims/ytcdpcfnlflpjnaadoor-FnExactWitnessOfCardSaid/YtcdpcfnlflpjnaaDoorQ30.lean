/-
  Joined: StepPl, RunPl, RpB, RpE, Ev0, Evs.
-/
import Derived.Test.YtcdpcfnlflpjnaaDoorProg
import Derived.Deep.RegionHeld3
import Derived.KernelRfl
import Derived.Tactics
import Derived.WalkKit
import Derived.WalkSpells
import Derived.WalkLawsBesides
import Derived.RegionTactic
import Derived.BigQuiet
import Derived.Deep.QuietTactic
import Derived.Deep.Slices
import Derived.Deep.Strs
import Derived.Deep.Fields
import Derived.ChangeSame
import Derived.Handy
import Derived.OwnWalk
import Derived.ChangeSlices
import Derived.Lib.SmallJoins
import Derived.Shelf.Abstract
import Derived.Laws.BytesArg
import Derived.Deep.RegionLaw
import Derived.Laws.OwnMore
import Derived.Laws.CopyOwn
import Derived.Laws.Tables
import Derived.BigRegion
import Derived.Maps.AppendAt
import Derived.Stop.Asserts
import Derived.Recover
import Derived.Test.YtcdpcfnlflpjnaaDoorQ01
import Derived.Test.YtcdpcfnlflpjnaaDoorQ02
import Derived.Test.YtcdpcfnlflpjnaaDoorQ09
import Derived.Test.YtcdpcfnlflpjnaaDoorQ27

/-
  What a step turns, in plain words: one of the shared places and locks at most; no other thread's place; its own place grows; who can is who is enabled.
-/
namespace Go.Proofs.YtcdpcfnlflpjnaaDoor
open Go.RowKit
set_option linter.unusedVariables false

theorem mem_enab {rows : List (List I3)} {m : V4} {k : Nat} : ∀ n, ((k : Int) ∈ enabM rows m n) ↔ k < n ∧ canM rows m k = true
  | 0 => by simp [enabM]
  | n + 1 => by
    have ih := mem_enab (rows := rows) (m := m) (k := k) n
    unfold enabM
    split
    · rename_i h
      simp only [List.mem_append, List.mem_singleton, ih]
      constructor
      · rintro (⟨h1, h2⟩ | h1)
        · exact ⟨by omega, h2⟩
        · obtain rfl : k = n := by omega
          exact ⟨by omega, h⟩
      · rintro ⟨h1, h2⟩
        by_cases e : k = n
        · exact .inr (by omega)
        · exact .inl ⟨by omega, h2⟩
    · rename_i h
      rw [ih]
      constructor
      · rintro ⟨h1, h2⟩
        exact ⟨by omega, h2⟩
      · rintro ⟨h1, h2⟩
        refine ⟨?_, h2⟩
        by_cases e : k = n
        · subst e
          exact absurd h2 h
        · omega
theorem enab_at {rows : List (List I3)} {m : V4} {i : Nat} (hi : i < (enabM rows m 3).length) : ∃ k : Nat, (enabM rows m 3).getD i 0 = k ∧ k < 3 ∧ canM rows m k = true := by
  have hm : (enabM rows m 3)[i] ∈ enabM rows m 3 := List.getElem_mem hi
  have hall : ∀ n, ∀ z ∈ enabM rows m n, ∃ k : Nat, z = k := by
    intro n
    induction n with
    | zero => intro z hz; simp [enabM] at hz
    | succ n ih =>
      intro z hz
      unfold enabM at hz
      split at hz
      · rcases List.mem_append.1 hz with h | h
        · exact ih z h
        · exact ⟨n, by simpa using h⟩
      · exact ih z hz
  obtain ⟨k, hk⟩ := hall 3 _ hm
  rw [hk] at hm
  obtain ⟨h1, h2⟩ := (mem_enab 3).1 hm
  refine ⟨k, ?_, h1, h2⟩
  rw [List.getD, List.getElem?_eq_getElem hi, Option.getD_some, hk]
end Go.Proofs.YtcdpcfnlflpjnaaDoor


/-
  Runs in plain words: what the program keeps and merges at the end is what the specification merges step by step.
-/
namespace Go.Proofs.YtcdpcfnlflpjnaaDoor
open Go.RowKit
set_option linter.unusedVariables false

def haltM (rows : List (List I3)) (m : V4) (k : Int) : Int :=
  if 0 ≤ k ∧ k ≤ 2 then (if doneM rows m k.toNat then 10 else if canM rows m k.toNat then 0 else 11) else 4
def goM (rows : List (List I3)) (m : V4) (k : Int) : V4 × Int := stepM m (insM rows m k.toNat) k.toNat
def ownM (rows : List (List I3)) (m : V4) (k : Int) : List I3 := if (goM rows m k).2 = 0 then [] else [((goM rows m k).2, k, m.1.getD k.toNat 0)]
def deadM (rows : List (List I3)) (m : V4) : List I3 := if stuckM rows m then [(14, 0, 0)] else []
def foundM (rows : List (List I3)) (m : V4) (k : Int) : List I3 := if stuckM rows (goM rows m k).1 then putB (ownM rows m k) (14, 0, 0) else ownM rows m k

theorem halt_can {rows : List (List I3)} {m : V4} {k : Int} (h : haltM rows m k = 0) : 0 ≤ k ∧ k ≤ 2 ∧ doneM rows m k.toNat = false ∧ canM rows m k.toNat = true := by
  unfold haltM at h
  split at h
  · rename_i hk
    cases hd : doneM rows m k.toNat
    · cases hc : canM rows m k.toNat
      · rw [hd, hc] at h; simp at h
      · exact ⟨hk.1, hk.2, rfl, rfl⟩
    · rw [hd] at h; simp at h
  · cases h
end Go.Proofs.YtcdpcfnlflpjnaaDoor


/-
  A replay's step that goes on; a bug that it keeps.
-/
namespace Go.Proofs.YtcdpcfnlflpjnaaDoor
open Go.RowKit
set_option linter.unusedVariables false
set_option linter.unusedSimpArgs false

theorem below_lowR {B C : Nat} {a b : World} (h : Below C a b) (hB : B ≤ C) : Below B a b := ⟨h.os, h.tape, h.output, h.size, fun k hk => h.block k (by omega)⟩
end Go.Proofs.YtcdpcfnlflpjnaaDoor


/-
  A replay's run: what it comes to.
-/
namespace Go.Proofs.YtcdpcfnlflpjnaaDoor
open Go.RowKit
set_option linter.unusedVariables false
set_option linter.unusedSimpArgs false

theorem bel_transR {B : Nat} {a b c : World} (h : Below B a b) (k : Below B b c) : Below B a c := ⟨k.os.trans h.os, k.tape.trans h.tape, k.output.trans h.output, Nat.le_trans h.size k.size, fun j hj => (k.block j hj).trans (h.block j hj)⟩
theorem ownM_len (rows : List (List I3)) (m : V4) (k : Int) : (ownM rows m k).length ≤ 1 := by unfold ownM; split <;> simp
end Go.Proofs.YtcdpcfnlflpjnaaDoor


/-
  Events: four numbers; an event that came in; who depends on whom.
-/
namespace Go.Proofs.YtcdpcfnlflpjnaaDoor
open Go.RowKit Go.ChangeShapes Go.WideShapes Go.Joins
set_option linter.unusedVariables false
set_option linter.unusedSimpArgs false

abbrev I4 := Int × Int × Int × Int
def I4.fits (x : I4) : Prop := (Lit.int .i64 x.1).wf = true ∧ (Lit.int .i64 x.2.1).wf = true ∧ (Lit.int .i64 x.2.2.1).wf = true ∧ (Lit.int .i64 x.2.2.2).wf = true
def I4.val (x : I4) : Value := .agg #[.int .i64 x.1, .int .i64 x.2.1, .int .i64 x.2.2.1, .int .i64 x.2.2.2]

def depM (a b : I4) : Bool := decide (a.1 = b.1) || (decide (0 ≤ a.2.2.2) && decide (a.2.2.2 = b.2.2.2) && !(decide (a.2.2.1 = 1) && decide (b.2.2.1 = 1)))

end Go.Proofs.YtcdpcfnlflpjnaaDoor


/-
  Rows of events in memory.
-/
namespace Go.Proofs.YtcdpcfnlflpjnaaDoor
open Go.RowKit
set_option linter.unusedVariables false
set_option linter.unusedSimpArgs false

def flat4 : List I4 → List Value
  | [] => []
  | x :: xs => [.int .i64 x.1, .int .i64 x.2.1, .int .i64 x.2.2.1, .int .i64 x.2.2.2] ++ flat4 xs
theorem flat4_snoc (es : List I4) (x : I4) : flat4 (es ++ [x]) = flat4 es ++ [.int .i64 x.1, .int .i64 x.2.1, .int .i64 x.2.2.1, .int .i64 x.2.2.2] := by
  induction es with
  | nil => rfl
  | cons y ys ih => simp only [List.cons_append, flat4, ih, List.append_assoc]
theorem flat4_at : ∀ (xs : List I4) (t : Nat), t < xs.length → (flat4 xs)[t * 4]? = some (.int .i64 (xs.getD t (0, 0, 0, 0)).1) ∧ (flat4 xs)[t * 4 + 1]? = some (.int .i64 (xs.getD t (0, 0, 0, 0)).2.1) ∧ (flat4 xs)[t * 4 + 2]? = some (.int .i64 (xs.getD t (0, 0, 0, 0)).2.2.1) ∧ (flat4 xs)[t * 4 + 3]? = some (.int .i64 (xs.getD t (0, 0, 0, 0)).2.2.2)
  | [], t, h => by simp at h
  | x :: xs, 0, _ => ⟨rfl, rfl, rfl, rfl⟩
  | x :: xs, t + 1, h => by
    have ih := flat4_at xs t (by simpa using h)
    have e : (t + 1) * 4 = t * 4 + 1 + 1 + 1 + 1 := by omega
    simp only [flat4, List.cons_append, List.nil_append, e, List.getElem?_cons_succ, List.getD_cons_succ]
    exact ih
def Evs (w : World) (a : Option Addr) (n : Nat) (xs : List I4) : Prop := xs.length = n ∧ n ≤ maxLen ∧ (n = 0 ∨ ∃ g, a = some ⟨g, 0, none⟩ ∧ g < w.heap.size ∧ ∀ t, t < n → w.cell? ⟨g, t * 4, none⟩ = some (.int .i64 (xs.getD t (0, 0, 0, 0)).1) ∧ w.cell? ⟨g, t * 4 + 1, none⟩ = some (.int .i64 (xs.getD t (0, 0, 0, 0)).2.1) ∧ w.cell? ⟨g, t * 4 + 2, none⟩ = some (.int .i64 (xs.getD t (0, 0, 0, 0)).2.2.1) ∧ w.cell? ⟨g, t * 4 + 3, none⟩ = some (.int .i64 (xs.getD t (0, 0, 0, 0)).2.2.2))
theorem Evs.below {w w' : World} {a : Option Addr} {n : Nat} {xs : List I4} (h : Evs w a n xs) (hb : Below w.heap.size w w') : Evs w' a n xs := by
  obtain ⟨h1, h2, h3 | ⟨g, rfl, hl, hc⟩⟩ := h
  · exact ⟨h1, h2, .inl h3⟩
  · refine ⟨h1, h2, .inr ⟨g, rfl, Nat.lt_of_lt_of_le hl hb.size, fun t ht => ?_⟩⟩
    obtain ⟨c0, c1, c2, c3⟩ := hc t ht
    exact ⟨(hb.cell (p := ⟨g, _, none⟩) hl).trans c0, (hb.cell (p := ⟨g, _, none⟩) hl).trans c1, (hb.cell (p := ⟨g, _, none⟩) hl).trans c2, (hb.cell (p := ⟨g, _, none⟩) hl).trans c3⟩
end Go.Proofs.YtcdpcfnlflpjnaaDoor

