/-
  Joined: RpD, EvM.
-/
import Derived.Recover
import Derived.Laws.RangeString
import Derived.Laws.RangeAny
import Derived.Laws.Bits
import Derived.Lib.FieldsP
import Derived.Shelf.SlSortCmp.NoneTotal
import Derived.Shelf.Spec.SlicesGrow
import Derived.Laws.AppendOwnNone
import Derived.Lib.SliceRun
import Derived.Deep.MidRow
import Derived.Test.YtdojjmkpelgcaaaDoorN19
import Derived.Test.YtdojjmkpelgcaaaDoorN40
import Derived.Test.YtdojjmkpelgcaaaDoorN45

namespace Go.Proofs.YtdojjmkpelgcaaaDoor
set_option maxRecDepth 100000
open Go.RowKit
set_option linter.unusedVariables false
set_option linter.unusedSimpArgs false

def ListAt (w : World) (B : Nat) (a : Option Addr) (n c : Nat) (ks : List Int) : Prop :=
 Ints .i64 w a n c ks ∧ ∀ b o, a = some ⟨b, o, none⟩ → 0 < n → b < B ∨ ∃ cur fz, w.heap[b]? = some (Obj.cells cur 3 fz)
theorem ListAt.kept {w w' : World} {B : Nat} {a : Option Addr} {n c : Nat} {ks : List Int} (h : ListAt w B a n c ks) (hb : Below B w w') (hk : RunKept w w') : ListAt w' B a n c ks := by
 obtain ⟨⟨h1, h2, h3, h4⟩, h5⟩ := h
 rcases Nat.eq_zero_or_pos n with hn | hn
 ·exact ⟨⟨h1, h2, h3, .inl hn⟩, fun _ _ _ h0 => absurd hn (by omega)⟩
 rcases h4 with h4 | ⟨b, off, ha, hl, hc⟩
 ·omega
 have e : w'.heap[b]? = w.heap[b]? := by
  rcases h5 b off ha hn with h6 | ⟨cur, fz, h6⟩
  ·exact hb.block b h6
  ·rw [hk b cur _ fz h6 (by decide) (by decide), h6]
 refine ⟨⟨h1, h2, h3, .inr ⟨b, off, ha, Nat.lt_of_lt_of_le hl hb.size, fun t ht => ?_⟩⟩, fun b' o' ha' h0 => ?_⟩
 ·rw [← hc t ht]
  unfold World.cell?
  simp only
  rw [e]
 ·rw [ha] at ha'
  cases ha'
  rcases h5 b off ha hn with h6 | ⟨cur, fz, h6⟩
  ·exact .inl h6
  ·exact .inr ⟨cur, fz, e.trans h6⟩


set_option maxHeartbeats 1000000 in
theorem eqEvent_same (x : I4) (w : World) : Calls Tryd.prog 30 #[x.val, x.val] w fun e w' => e = .returned (.bool true) ∧ Below w.heap.size w w' := by
 obtain ⟨p, q, r, s⟩ := x
 unfold I4.val
 go_enter Tryd.func30, Tryd.ntmps30
 go_wp2
 go_returns
 exact ⟨rfl, by go_grown⟩

end Go.Proofs.YtdojjmkpelgcaaaDoor
