/-
  Joined: NorS.
-/
import Derived.Test.YtmhngodbnoonhaaDoorProg
import Derived.Deep.RegionHeld3
import Derived.KernelRfl
import Derived.Tactics
import Derived.WalkKit
import Derived.WalkSpells
import Derived.WalkLawsBesides
import Derived.RegionTactic
import Derived.BigQuiet
import Derived.Deep.QuietTactic
import Derived.Deep.Slices
import Derived.Deep.Strs
import Derived.Deep.Fields
import Derived.ChangeSame
import Derived.Handy
import Derived.OwnWalk
import Derived.ChangeSlices
import Derived.Lib.SmallJoins
import Derived.Shelf.Abstract
import Derived.Laws.BytesArg
import Derived.Deep.RegionLaw
import Derived.Laws.OwnMore
import Derived.Laws.CopyOwn
import Derived.Laws.Tables
import Derived.BigRegion
import Derived.Maps.AppendAt
import Derived.IntWalk
import Derived.Test.YtmhngodbnoonhaaDoorK01
import Derived.Test.YtmhngodbnoonhaaDoorK02
import Derived.Test.YtmhngodbnoonhaaDoorK07
import Derived.Test.YtmhngodbnoonhaaDoorK09
import Derived.Test.YtmhngodbnoonhaaDoorK22
import Derived.Test.YtmhngodbnoonhaaDoorK23
import Derived.Test.YtmhngodbnoonhaaDoorK24
import Derived.Test.YtmhngodbnoonhaaDoorK25

/-
  The specification's l05Normal: the normal form of a row of events.
-/
namespace Go.Proofs.YtmhngodbnoonhaaDoor
open Go.RowKit
set_option linter.unusedVariables false
set_option linter.unusedSimpArgs false

theorem owns_sliceN {w : World} {B e s n : Nat} {v : Value} {xs : List Value} (h : w.ownsRow B e s v n xs) : ∃ a cap, v = .slice a n cap := by
  rcases h.2 with ⟨rfl, rfl⟩ | ⟨g, cap, cur, rfl, _⟩
  · exact ⟨_, _, rfl⟩
  · exact ⟨_, _, rfl⟩
noncomputable def stN (es : List I4) (s : Nat) : (Nat → Bool) × List Nat := stS (befB (depE es)) (thE es) es.length s
def OnNor (w wr : World) (gO gU : Nat) (es : List I4) (n s : Nat) (vo : Value) : Prop :=
  Blk wr gO 4 (tab2 n (befB (depE es))) ∧ Blk wr gU 4 (tab n fun j => .bool ((stN es s).1 j)) ∧ wr.ownsRow w.heap.size 3 1 vo s (((stN es s).2.map (fun t : Nat => (t : Int))).map (Value.int .i64)) ∧ Below w.heap.size w wr ∧ gO < wr.heap.size
theorem OnNor.drewN {w wr : World} {gO gU : Nat} {es : List I4} {n s : Nat} {vo : Value} (h : OnNor w wr gO gU es n s vo) (d : Nat) : OnNor w (wr.drewN d) gO gU es n s vo :=
  ⟨h.1.drewN d, h.2.1.drewN d, owns_below h.2.2.1 (below_dN d), bel_trans h.2.2.2.1 (below_dN d), h.2.2.2.2⟩
theorem ev_cells {w0 w : World} {a : Option Addr} {n : Nat} {es : List I4} (h : Evs w0 a n es) (hb : Below w0.heap.size w0 w) {k : Nat} (hk : k < n) : ∃ ge, a = some ⟨ge, 0, none⟩ ∧ ge < w0.heap.size ∧ w.cell? ⟨ge, k * 4, none⟩ = some (.int .i64 (evAt es k).1) ∧ w.cell? ⟨ge, k * 4 + 1, none⟩ = some (.int .i64 (evAt es k).2.1) ∧ w.cell? ⟨ge, k * 4 + 2, none⟩ = some (.int .i64 (evAt es k).2.2.1) ∧ w.cell? ⟨ge, k * 4 + 3, none⟩ = some (.int .i64 (evAt es k).2.2.2) := by
  obtain ⟨h1, h2, h3 | ⟨ge, rfl, hgl, hce⟩⟩ := h
  · clear h2; omega
  obtain ⟨c0, c1, c2, c3⟩ := hce k hk
  exact ⟨ge, rfl, hgl, (hb.cell (p := ⟨ge, _, none⟩) hgl).trans c0, (hb.cell (p := ⟨ge, _, none⟩) hgl).trans c1, (hb.cell (p := ⟨ge, _, none⟩) hgl).trans c2, (hb.cell (p := ⟨ge, _, none⟩) hgl).trans c3⟩
end Go.Proofs.YtmhngodbnoonhaaDoor

