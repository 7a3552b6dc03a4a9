/-
  Joined: RpA, StepPl.
-/
import Derived.Test.YtdojjmkpelgcaaaDoorProg
import Derived.Deep.RegionHeld3
import Derived.KernelRfl
import Derived.Tactics
import Derived.WalkKit
import Derived.WalkSpells
import Derived.WalkLawsBesides
import Derived.RegionTactic
import Derived.BigQuiet
import Derived.Deep.QuietTactic
import Derived.Deep.Slices
import Derived.Deep.Strs
import Derived.Deep.Fields
import Derived.ChangeSame
import Derived.Handy
import Derived.OwnWalk
import Derived.ChangeSlices
import Derived.Lib.SmallJoins
import Derived.Shelf.Abstract
import Derived.Laws.BytesArg
import Derived.Deep.RegionLaw
import Derived.Laws.OwnMore
import Derived.Laws.CopyOwn
import Derived.Laws.Tables
import Derived.BigRegion
import Derived.Maps.AppendAt
import Derived.Stop.Asserts
import Derived.Test.YtdojjmkpelgcaaaDoorK01
import Derived.Test.YtdojjmkpelgcaaaDoorK02
import Derived.Test.YtdojjmkpelgcaaaDoorK04
import Derived.Test.YtdojjmkpelgcaaaDoorK07
import Derived.Test.YtdojjmkpelgcaaaDoorK08
import Derived.Test.YtdojjmkpelgcaaaDoorK09
import Derived.Test.YtdojjmkpelgcaaaDoorK16

/-
  A replay's step that halts; what it keeps of an outcome.
-/
namespace Go.Proofs.YtdojjmkpelgcaaaDoor
open Go.RowKit
set_option linter.unusedVariables false
set_option linter.unusedSimpArgs false

set_option maxHeartbeats 1000000 in
set_option maxRecDepth 100000 in
theorem rstep_range (g : Nat) (k : Int) (w : World) (hk : inB k 0 2 = false) :
    Calls Tryd.prog 121 #[.pointer (some ⟨g, 0, none⟩), .int .i64 k] w fun e w' => e = .returned (.iface 174 (.int .i64 4)) ∧ w = w' := by
  have kT := isThread_is k
  rw [hk] at kT
  clear hk
  go_enter Tryd.func121, Tryd.ntmps121
  go_wp2_with fail
  refine (kT _).mono ?_
  rintro e w1 ⟨rfl, rfl⟩
  go_wp2
  go_ret
  exact ⟨rfl, rfl⟩

set_option maxHeartbeats 1000000 in
set_option maxRecDepth 100000 in
theorem rstep_done {fv : Value} {w : World} {g : Nat} {cs : Sl × Sl × Sl} {rows : List (List I3)} {m : V4} (h : Rp.MachAt fv w g cs rows m) {k : Nat} (hk : k < 3) (hd : doneM rows m k = true) :
    Calls Tryd.prog 121 #[.pointer (some ⟨g, 0, none⟩), .int .i64 k] w fun e w' => e = .returned (.iface 174 (.int .i64 10)) ∧ Below w.heap.size w w' := by
  have kT := isThread_is k
  have ht : inB (k : Int) 0 2 = true := inB_true.2 (by omega)
  have kD := Rp.doneT_is h hk
  rw [ht] at kT
  rw [hd] at kD
  have hk3 : (k : Int) < 3 := by omega
  clear hd ht h
  go_enter Tryd.func121, Tryd.ntmps121
  go_wp2_with fail
  refine (kT _).mono ?_
  rintro e w1 ⟨rfl, rfl⟩
  clear kT
  go_wp2_with fail
  refine kD.mono ?_
  rintro e w1 ⟨rfl, d, rfl⟩
  go_wp2
  go_ret
  exact ⟨rfl, below_dN _⟩

set_option maxHeartbeats 1000000 in
set_option maxRecDepth 100000 in
theorem rstep_waits {fv : Value} {w : World} {g : Nat} {cs : Sl × Sl × Sl} {rows : List (List I3)} {m : V4} (h : Rp.MachAt fv w g cs rows m) (hp : progOk rows = true) (hs : shapeOk m = true) {k : Nat} (hk : k < 3) (hd : doneM rows m k = false) (hw : waitM rows m k = true) :
    Calls Tryd.prog 121 #[.pointer (some ⟨g, 0, none⟩), .int .i64 k] w fun e w' => e = .returned (.iface 174 (.int .i64 11)) ∧ Below w.heap.size w w' := by
  have kT := isThread_is k
  have ht : inB (k : Int) 0 2 = true := inB_true.2 (by omega)
  have kD := Rp.doneT_is h hk
  have kW := fun W (hM : Rp.MachAt fv W g cs rows m) => Rp.waits_is hM hp hs hk
  rw [ht] at kT
  rw [hd] at kD
  rw [hw] at kW
  have hk3 : (k : Int) < 3 := by omega
  clear hd ht hw hp hs
  go_enter Tryd.func121, Tryd.ntmps121
  go_wp2_with fail
  refine (kT _).mono ?_
  rintro e w1 ⟨rfl, rfl⟩
  clear kT
  go_wp2_with fail
  refine kD.mono ?_
  rintro e w1 ⟨rfl, d, rfl⟩
  clear kD
  go_wp2_with fail
  refine (kW _ (h.below (below_dN _))).mono ?_
  rintro e w1 ⟨rfl, hb⟩
  have bz : Below w.heap.size w w1 := bel_trans (below_dN _) hb
  clear hb kW h
  go_wp2
  go_ret
  exact ⟨rfl, bz⟩

theorem bug_of_halt (v : Value) (w : World) : (Instr.typeAssert (.iface 174 v) 177 167 true).run Tryd.prog w = .ok (.tuple #[.agg #[.int .i64 0, .int .i64 0, .int .i64 0], .bool false]) w := by kernel_rfl
theorem bug_of_bug (v : Value) (w : World) : (Instr.typeAssert (.iface 167 v) 177 167 true).run Tryd.prog w = .ok (.tuple #[v, .bool true]) w := by kernel_rfl
theorem halt_of_halt (v : Value) (w : World) : (Instr.typeAssert (.iface 174 v) 20 174 false).run Tryd.prog w = .ok v w := by kernel_rfl

set_option maxHeartbeats 1000000 in
set_option maxRecDepth 100000 in
theorem keep_halt (g : Nat) (c : Int) (w : World) :
    Calls Tryd.prog 120 #[.pointer (some ⟨g, 0, none⟩), .iface 174 (.int .i64 c)] w fun e w' => e = .panicked [{ v := .iface 174 (.int .i64 c), recovered := false }] ∧ Below w.heap.size w w' := by
  have hA := bug_of_halt
  go_enter Tryd.func120, Tryd.ntmps120
  go_wp2
  exact ⟨rfl, rfl, by go_grown⟩

set_option maxHeartbeats 1000000 in
set_option maxRecDepth 100000 in
theorem keep_ok (g : Nat) (k pc : Int) (w : World) :
    Calls Tryd.prog 120 #[.pointer (some ⟨g, 0, none⟩), .iface 167 (.agg #[.int .i64 0, .int .i64 k, .int .i64 pc])] w fun e w' => e = .returned (.tuple #[]) ∧ Below w.heap.size w w' := by
  have hA := bug_of_bug
  go_enter Tryd.func120, Tryd.ntmps120
  go_wp2
  go_end0
  exact ⟨rfl, by go_grown⟩
end Go.Proofs.YtdojjmkpelgcaaaDoor


/-
  What a step turns, in plain words: one of the shared places and locks at most; no other thread's place; its own place grows; who can is who is enabled.
-/
namespace Go.Proofs.YtdojjmkpelgcaaaDoor
open Go.RowKit
set_option linter.unusedVariables false

theorem mem_enab {rows : List (List I3)} {m : V4} {k : Nat} : ∀ n, ((k : Int) ∈ enabM rows m n) ↔ k < n ∧ canM rows m k = true
  | 0 => by simp [enabM]
  | n + 1 => by
    have ih := mem_enab (rows := rows) (m := m) (k := k) n
    unfold enabM
    split
    · rename_i h
      simp only [List.mem_append, List.mem_singleton, ih]
      constructor
      · rintro (⟨h1, h2⟩ | h1)
        · exact ⟨by omega, h2⟩
        · obtain rfl : k = n := by omega
          exact ⟨by omega, h⟩
      · rintro ⟨h1, h2⟩
        by_cases e : k = n
        · exact .inr (by omega)
        · exact .inl ⟨by omega, h2⟩
    · rename_i h
      rw [ih]
      constructor
      · rintro ⟨h1, h2⟩
        exact ⟨by omega, h2⟩
      · rintro ⟨h1, h2⟩
        refine ⟨?_, h2⟩
        by_cases e : k = n
        · subst e
          exact absurd h2 h
        · omega
end Go.Proofs.YtdojjmkpelgcaaaDoor

