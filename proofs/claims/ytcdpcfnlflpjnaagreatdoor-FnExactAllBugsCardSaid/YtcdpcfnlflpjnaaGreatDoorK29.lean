/-
  Joined: RunPl, RpB, RpD, RpE.
-/
import Derived.Test.YtcdpcfnlflpjnaaGreatDoorProg
import Derived.Deep.RegionHeld3
import Derived.KernelRfl
import Derived.Tactics
import Derived.WalkKit
import Derived.WalkSpells
import Derived.WalkLawsBesides
import Derived.RegionTactic
import Derived.BigQuiet
import Derived.Deep.QuietTactic
import Derived.Deep.Slices
import Derived.Deep.Strs
import Derived.Deep.Fields
import Derived.ChangeSame
import Derived.Handy
import Derived.OwnWalk
import Derived.ChangeSlices
import Derived.Lib.SmallJoins
import Derived.Shelf.Abstract
import Derived.Laws.BytesArg
import Derived.Deep.RegionLaw
import Derived.Laws.OwnMore
import Derived.Laws.CopyOwn
import Derived.Laws.Tables
import Derived.BigRegion
import Derived.Maps.AppendAt
import Derived.Stop.Asserts
import Derived.Recover
import Derived.Test.YtcdpcfnlflpjnaaGreatDoorK01
import Derived.Test.YtcdpcfnlflpjnaaGreatDoorK02
import Derived.Test.YtcdpcfnlflpjnaaGreatDoorK08
import Derived.Test.YtcdpcfnlflpjnaaGreatDoorK25

/-
  Runs in plain words: what the program keeps and merges at the end is what the specification merges step by step.
-/
namespace Go.Proofs.YtcdpcfnlflpjnaaGreatDoor
open Go.RowKit
set_option linter.unusedVariables false

def haltM (rows : List (List I3)) (m : V4) (k : Int) : Int :=
  if 0 ≤ k ∧ k ≤ 2 then (if doneM rows m k.toNat then 10 else if canM rows m k.toNat then 0 else 11) else 4
def goM (rows : List (List I3)) (m : V4) (k : Int) : V4 × Int := stepM m (insM rows m k.toNat) k.toNat
def ownM (rows : List (List I3)) (m : V4) (k : Int) : List I3 := if (goM rows m k).2 = 0 then [] else [((goM rows m k).2, k, m.1.getD k.toNat 0)]
def deadM (rows : List (List I3)) (m : V4) : List I3 := if stuckM rows m then [(14, 0, 0)] else []
def foundM (rows : List (List I3)) (m : V4) (k : Int) : List I3 := if stuckM rows (goM rows m k).1 then putB (ownM rows m k) (14, 0, 0) else ownM rows m k

theorem halt_can {rows : List (List I3)} {m : V4} {k : Int} (h : haltM rows m k = 0) : 0 ≤ k ∧ k ≤ 2 ∧ doneM rows m k.toNat = false ∧ canM rows m k.toNat = true := by
  unfold haltM at h
  split at h
  · rename_i hk
    cases hd : doneM rows m k.toNat
    · cases hc : canM rows m k.toNat
      · rw [hd, hc] at h; simp at h
      · exact ⟨hk.1, hk.2, rfl, rfl⟩
    · rw [hd] at h; simp at h
  · cases h
end Go.Proofs.YtcdpcfnlflpjnaaGreatDoor


/-
  A replay's step that goes on; a bug that it keeps.
-/
namespace Go.Proofs.YtcdpcfnlflpjnaaGreatDoor
open Go.RowKit
set_option linter.unusedVariables false
set_option linter.unusedSimpArgs false

def RunKept (w w' : World) : Prop := ∀ (j : Nat) (cur : Array Value) (e : TypeId) (fz : Nat × Nat), w.heap[j]? = some (Obj.cells cur e fz) → e ≠ 53 → e ≠ 106 → w'.heap[j]? = some (Obj.cells cur e fz)
theorem RunKept.refl (w : World) : RunKept w w := fun _ _ _ _ h _ _ => h
theorem RunKept.trans {a b c : World} (h : RunKept a b) (k : RunKept b c) : RunKept a c := fun j cur e fz h0 he h9 => k j cur e fz (h j cur e fz h0 he h9) he h9
theorem RunKept.blk {w w' : World} {g t : Nat} {cs : List Value} (h : RunKept w w') (hB : Blk w g t cs) (h1 : t ≠ 53) (h2 : t ≠ 106) : Blk w' g t cs := h g _ t _ hB h1 h2
theorem RunKept.owns {B e s n : Nat} {w w' : World} {v : Value} {xs : List Value} (h : RunKept w w') (ho : w.ownsRow B e s v n xs) (h1 : e ≠ 53) (h2 : e ≠ 106) : w'.ownsRow B e s v n xs := by
  refine ⟨ho.1, ?_⟩
  rcases ho.2 with h0 | ⟨g, cap, cur, hv, hB, hg, rest⟩
  · exact .inl h0
  · exact .inr ⟨g, cap, cur, hv, hB, h g cur e _ hg h1 h2, rest⟩
theorem below_lowR {B C : Nat} {a b : World} (h : Below C a b) (hB : B ≤ C) : Below B a b := ⟨h.os, h.tape, h.output, h.size, fun k hk => h.block k (by omega)⟩
end Go.Proofs.YtcdpcfnlflpjnaaGreatDoor


/-
  A replay's run.
-/
namespace Go.Proofs.YtcdpcfnlflpjnaaGreatDoor
open Go.RowKit
set_option linter.unusedVariables false
set_option linter.unusedSimpArgs false

def ListAt (w : World) (B : Nat) (a : Option Addr) (n c : Nat) (ks : List Int) : Prop :=
  Ints .i64 w a n c ks ∧ ∀ b o, a = some ⟨b, o, none⟩ → 0 < n → b < B ∨ ∃ cur fz, w.heap[b]? = some (Obj.cells cur 3 fz)
theorem ListAt.kept {w w' : World} {B : Nat} {a : Option Addr} {n c : Nat} {ks : List Int} (h : ListAt w B a n c ks) (hb : Below B w w') (hk : RunKept w w') : ListAt w' B a n c ks := by
  obtain ⟨⟨h1, h2, h3, h4⟩, h5⟩ := h
  rcases Nat.eq_zero_or_pos n with hn | hn
  · exact ⟨⟨h1, h2, h3, .inl hn⟩, fun _ _ _ h0 => absurd hn (by omega)⟩
  rcases h4 with h4 | ⟨b, off, ha, hl, hc⟩
  · omega
  have e : w'.heap[b]? = w.heap[b]? := by
    rcases h5 b off ha hn with h6 | ⟨cur, fz, h6⟩
    · exact hb.block b h6
    · rw [hk b cur _ fz h6 (by decide) (by decide), h6]
  refine ⟨⟨h1, h2, h3, .inr ⟨b, off, ha, Nat.lt_of_lt_of_le hl hb.size, fun t ht => ?_⟩⟩, fun b' o' ha' h0 => ?_⟩
  · rw [← hc t ht]
    unfold World.cell?
    simp only
    rw [e]
  · rw [ha] at ha'
    cases ha'
    rcases h5 b off ha hn with h6 | ⟨cur, fz, h6⟩
    · exact .inl h6
    · exact .inr ⟨cur, fz, e.trans h6⟩
end Go.Proofs.YtcdpcfnlflpjnaaGreatDoor


/-
  A replay's run: what it comes to.
-/
namespace Go.Proofs.YtcdpcfnlflpjnaaGreatDoor
open Go.RowKit
set_option linter.unusedVariables false
set_option linter.unusedSimpArgs false

theorem bel_transR {B : Nat} {a b c : World} (h : Below B a b) (k : Below B b c) : Below B a c := ⟨k.os.trans h.os, k.tape.trans h.tape, k.output.trans h.output, Nat.le_trans h.size k.size, fun j hj => (k.block j hj).trans (h.block j hj)⟩
theorem ownM_len (rows : List (List I3)) (m : V4) (k : Int) : (ownM rows m k).length ≤ 1 := by unfold ownM; split <;> simp
end Go.Proofs.YtcdpcfnlflpjnaaGreatDoor

