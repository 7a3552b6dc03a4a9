/-
  Joined: FrW#1.
-/
import Derived.Test.YtmhngodbnoonhaaDoorProg
import Derived.Deep.RegionHeld3
import Derived.KernelRfl
import Derived.Tactics
import Derived.WalkKit
import Derived.WalkSpells
import Derived.WalkLawsBesides
import Derived.RegionTactic
import Derived.BigQuiet
import Derived.Deep.QuietTactic
import Derived.Deep.Slices
import Derived.Deep.Strs
import Derived.Deep.Fields
import Derived.ChangeSame
import Derived.ChangeSlices
import Derived.Lib.SmallJoins
import Derived.Handy
import Derived.OwnWalk
import Derived.Shelf.Abstract
import Derived.Laws.BytesArg
import Derived.Deep.RegionLaw
import Derived.Laws.OwnMore
import Derived.BigRegion
import Derived.Laws.CopyOwn
import Derived.Laws.Tables
import Derived.Maps.AppendAt
import Derived.Laws.RangeString
import Derived.Laws.RangeAny
import Derived.Laws.Bits
import Derived.Lib.FieldsP
import Derived.Stop.Asserts
import Derived.Recover
import Derived.Shelf.SlSortCmp.NoneTotal
import Derived.Shelf.Spec.SlicesGrow
import Derived.Laws.AppendOwnNone
import Derived.Lib.SliceRun
import Derived.Deep.MidRow
import Derived.Test.YtmhngodbnoonhaaDoorRows
import Derived.ProofKit
import Derived.OpenShut
import Derived.LaidMore
import Derived.MakeChecks
import Derived.Stop.LaidErr
import Derived.Test.YtmhngodbnoonhaaDoorK01
import Derived.Test.YtmhngodbnoonhaaDoorK02
import Derived.Test.YtmhngodbnoonhaaDoorK04
import Derived.Test.YtmhngodbnoonhaaDoorK07
import Derived.Test.YtmhngodbnoonhaaDoorK25
import Derived.Test.YtmhngodbnoonhaaDoorK29
import Derived.Test.YtmhngodbnoonhaaDoorK33
import Derived.Test.YtmhngodbnoonhaaDoorK43

/-
  A schedule comes to where its steps come, and finds what all schedules find: the law's walk.
-/
namespace Go.Proofs.YtmhngodbnoonhaaDoor
open Go.RowKit
set_option linter.unusedVariables false
set_option linter.unusedSimpArgs false

theorem same_selfF {m : V4} (h : shapeOk m = true) : sameV m m = true := by unfold sameV; simp [h]
theorem schedule_ints (a : Option Addr) (n cap : Nat) (zs : List Int) (aP : Option Addr) (capP : Nat) (rows : List (List I3)) (w : World) (hI : IsRow .u8 w a n cap zs) (hn : n ≤ 1048576) (hP : Codes w aP 3 capP rows) (hok : progOk rows = true) :
    Calls Tryd.prog 12 #[.slice a n cap, .agg #[.slice aP 3 capP]] w fun e w' => (∃ (lb lo lc k : Nat) (ks : List Int) (m : V4), e = .returned (.slice (some ⟨lb, lo, none⟩) k lc) ∧ Ints .i64 w' (some ⟨lb, lo, none⟩) k lc ks ∧ k ≤ 14 ∧ goesTo rows ks m) ∧ Below w.heap.size w w' := by
  refine (scheduleDrawn_any a n cap zs aP capP rows w hI hn hP hok).mono ?_
  rintro e w' ⟨⟨v, ks, m, ⟨g, c, rfl⟩, rfl, q, hl, hg⟩, hb⟩
  exact ⟨⟨g, 0, c, ks.length, ks, m, rfl, OwnI.ints (s := (some ⟨g, 0, none⟩, ks.length, c)) q, hl, hg⟩, hb⟩
def OnFr (Wb wr : World) (rows : List (List I3)) (ks : List Int) (n i : Nat) (m mi : V4) (fi : List I3) : Prop :=
  i ≤ n ∧ (runI rows mi fi (ks.drop i)).2.2 = 0 ∧ (runI rows mi fi (ks.drop i)).1 = m ∧ shapeOk mi = true ∧ (∃ t : S4, Blk wr Wb.heap.size 30 (vmC t) ∧ OwnV wr 0 t mi) ∧ Below Wb.heap.size Wb wr
theorem run_step {rows : List (List I3)} {m mi : V4} {fi : List I3} {k : Int} {ks : List Int} (h1 : (runI rows mi fi (k :: ks)).2.2 = 0) (h2 : (runI rows mi fi (k :: ks)).1 = m) : haltM rows mi k = 0 ∧ (runI rows (goM rows mi k).1 (fi ++ ownM rows mi k) ks).2.2 = 0 ∧ (runI rows (goM rows mi k).1 (fi ++ ownM rows mi k) ks).1 = m := by
  by_cases hz : haltM rows mi k = 0
  · have e : runI rows mi fi (k :: ks) = runI rows (goM rows mi k).1 (fi ++ ownM rows mi k) ks := by
      show (if haltM rows mi k = 0 then _ else _) = _
      rw [if_pos hz]
    rw [e] at h1 h2
    exact ⟨hz, h1, h2⟩
  · have e : runI rows mi fi (k :: ks) = (mi, fi, haltM rows mi k) := by
      show (if haltM rows mi k = 0 then _ else _) = _
      rw [if_neg hz]
    rw [e] at h1
    exact absurd h1 hz
theorem int_one (xs : List Int) : ∀ u ∈ xs.map (Value.int .i64), u.oneCell' = true := by
  intro u hu
  obtain ⟨x, _, rfl⟩ := List.mem_map.1 hu
  rfl
theorem int_at {w : World} {G : Nat} {v : Value} (h : w.cell? ⟨G, 0, none⟩ = some v) : ∀ j u, [v][j]? = some u → w.cell? ((⟨G, 0, none⟩ : Addr).add j) = some u := by
  intro j u hj
  match j, hj with
  | 0, hj => simp at hj; subst hj; simpa [Addr.add] using h
  | (j + 1), hj => simp at hj
theorem bugs_cells {w : World} {a : Option Addr} {n c : Nat} {xs : List I3} (h : Instrs w a n c xs) {i : Nat} (hi : i < n) : ∃ b off, a = some ⟨b, off, none⟩ ∧ w.cell? ⟨b, off + i * 3, none⟩ = some (.int .i64 (xs.getD i (0, 0, 0)).1) ∧ w.cell? ⟨b, off + i * 3 + 1, none⟩ = some (.int .i64 (xs.getD i (0, 0, 0)).2.1) ∧ w.cell? ⟨b, off + i * 3 + 2, none⟩ = some (.int .i64 (xs.getD i (0, 0, 0)).2.2) := by
  obtain ⟨h1, h2, h3, _, h4⟩ := h
  rcases h4 with h4 | ⟨b, off, ha, hl, hc⟩
  · omega
  · exact ⟨b, off, ha, hc i hi⟩
theorem own_snoc {w : World} {B g n c : Nat} {ks : List Int} {z : Int} (q : w.ownsRow B 3 1 (.slice (some ⟨g, 0, none⟩) (0 + n + 1) c) (0 + n + 1) (([] ++ ks.map (Value.int .i64)) ++ [Value.int .i64 z])) : Ints .i64 w (some ⟨g, 0, none⟩) (0 + n + 1) c (ks ++ [z]) := by
  refine OwnI.ints (B := B) (s := (some ⟨g, 0, none⟩, 0 + n + 1, c)) ?_
  unfold OwnI
  simpa using q

end Go.Proofs.YtmhngodbnoonhaaDoor

