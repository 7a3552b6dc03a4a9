/-
  Joined: RunPl, RunQ, Ev0, Evs.
-/
import Derived.Test.YtcdpcfnlflpjnaaDoorProg
import Derived.Deep.RegionHeld3
import Derived.KernelRfl
import Derived.Tactics
import Derived.WalkKit
import Derived.WalkSpells
import Derived.WalkLawsBesides
import Derived.RegionTactic
import Derived.BigQuiet
import Derived.Deep.QuietTactic
import Derived.Deep.Slices
import Derived.Deep.Strs
import Derived.Deep.Fields
import Derived.ChangeSame
import Derived.ChangeSlices
import Derived.Lib.SmallJoins
import Derived.Handy
import Derived.OwnWalk
import Derived.Shelf.Abstract
import Derived.Laws.BytesArg
import Derived.Deep.RegionLaw
import Derived.Laws.OwnMore
import Derived.BigRegion
import Derived.Laws.CopyOwn
import Derived.Laws.Tables
import Derived.Maps.AppendAt
import Derived.Test.YtcdpcfnlflpjnaaDoorK01
import Derived.Test.YtcdpcfnlflpjnaaDoorK02
import Derived.Test.YtcdpcfnlflpjnaaDoorK03
import Derived.Test.YtcdpcfnlflpjnaaDoorK07
import Derived.Test.YtcdpcfnlflpjnaaDoorK10
import Derived.Test.YtcdpcfnlflpjnaaDoorK11
import Derived.Test.YtcdpcfnlflpjnaaDoorK30

/-
  Runs in plain words: what the program keeps and merges at the end is what the specification merges step by step.
-/
namespace Go.Proofs.YtcdpcfnlflpjnaaDoor
open Go.RowKit
set_option linter.unusedVariables false

def haltM (rows : List (List I3)) (m : V4) (k : Int) : Int :=
  if 0 ≤ k ∧ k ≤ 2 then (if doneM rows m k.toNat then 10 else if canM rows m k.toNat then 0 else 11) else 4
def goM (rows : List (List I3)) (m : V4) (k : Int) : V4 × Int := stepM m (insM rows m k.toNat) k.toNat
theorem halt_can {rows : List (List I3)} {m : V4} {k : Int} (h : haltM rows m k = 0) : 0 ≤ k ∧ k ≤ 2 ∧ doneM rows m k.toNat = false ∧ canM rows m k.toNat = true := by
  unfold haltM at h
  split at h
  · rename_i hk
    cases hd : doneM rows m k.toNat
    · cases hc : canM rows m k.toNat
      · rw [hd, hc] at h; simp at h
      · exact ⟨hk.1, hk.2, rfl, rfl⟩
    · rw [hd] at h; simp at h
  · cases h
end Go.Proofs.YtcdpcfnlflpjnaaDoor


/-
  Runs in plain words, more: what a run keeps are right bugs, and its states have their shape.
-/
namespace Go.Proofs.YtcdpcfnlflpjnaaDoor
open Go.RowKit
set_option linter.unusedVariables false

theorem goM_shape {rows : List (List I3)} {m : V4} {k : Int} (hp : progOk rows = true) (hs : shapeOk m = true) (hz : haltM rows m k = 0) : shapeOk (goM rows m k).1 = true := by
  obtain ⟨h0, h2, hd, hc⟩ := halt_can hz
  exact shape_step hp hs (by omega) hd
end Go.Proofs.YtcdpcfnlflpjnaaDoor


/-
  Events: four numbers; an event that came in; who depends on whom.
-/
namespace Go.Proofs.YtcdpcfnlflpjnaaDoor
open Go.RowKit Go.ChangeShapes Go.WideShapes Go.Joins
set_option linter.unusedVariables false
set_option linter.unusedSimpArgs false

abbrev I4 := Int × Int × Int × Int
def I4.val (x : I4) : Value := .agg #[.int .i64 x.1, .int .i64 x.2.1, .int .i64 x.2.2.1, .int .i64 x.2.2.2]

end Go.Proofs.YtcdpcfnlflpjnaaDoor


/-
  Rows of events in memory.
-/
namespace Go.Proofs.YtcdpcfnlflpjnaaDoor
open Go.RowKit
set_option linter.unusedVariables false
set_option linter.unusedSimpArgs false

def flat4 : List I4 → List Value
  | [] => []
  | x :: xs => [.int .i64 x.1, .int .i64 x.2.1, .int .i64 x.2.2.1, .int .i64 x.2.2.2] ++ flat4 xs
theorem flat4_snoc (es : List I4) (x : I4) : flat4 (es ++ [x]) = flat4 es ++ [.int .i64 x.1, .int .i64 x.2.1, .int .i64 x.2.2.1, .int .i64 x.2.2.2] := by
  induction es with
  | nil => rfl
  | cons y ys ih => simp only [List.cons_append, flat4, ih, List.append_assoc]
def Evs (w : World) (a : Option Addr) (n : Nat) (xs : List I4) : Prop := xs.length = n ∧ n ≤ maxLen ∧ (n = 0 ∨ ∃ g, a = some ⟨g, 0, none⟩ ∧ g < w.heap.size ∧ ∀ t, t < n → w.cell? ⟨g, t * 4, none⟩ = some (.int .i64 (xs.getD t (0, 0, 0, 0)).1) ∧ w.cell? ⟨g, t * 4 + 1, none⟩ = some (.int .i64 (xs.getD t (0, 0, 0, 0)).2.1) ∧ w.cell? ⟨g, t * 4 + 2, none⟩ = some (.int .i64 (xs.getD t (0, 0, 0, 0)).2.2.1) ∧ w.cell? ⟨g, t * 4 + 3, none⟩ = some (.int .i64 (xs.getD t (0, 0, 0, 0)).2.2.2))
theorem Evs.below {w w' : World} {a : Option Addr} {n : Nat} {xs : List I4} (h : Evs w a n xs) (hb : Below w.heap.size w w') : Evs w' a n xs := by
  obtain ⟨h1, h2, h3 | ⟨g, rfl, hl, hc⟩⟩ := h
  · exact ⟨h1, h2, .inl h3⟩
  · refine ⟨h1, h2, .inr ⟨g, rfl, Nat.lt_of_lt_of_le hl hb.size, fun t ht => ?_⟩⟩
    obtain ⟨c0, c1, c2, c3⟩ := hc t ht
    exact ⟨(hb.cell (p := ⟨g, _, none⟩) hl).trans c0, (hb.cell (p := ⟨g, _, none⟩) hl).trans c1, (hb.cell (p := ⟨g, _, none⟩) hl).trans c2, (hb.cell (p := ⟨g, _, none⟩) hl).trans c3⟩
end Go.Proofs.YtcdpcfnlflpjnaaDoor

