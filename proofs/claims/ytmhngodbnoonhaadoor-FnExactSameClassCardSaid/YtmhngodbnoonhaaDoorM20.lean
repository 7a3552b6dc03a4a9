/-
  Joined: RpA, StepPl, RunPl, RpC.
-/
import Derived.Test.YtmhngodbnoonhaaDoorProg
import Derived.WalkKit
import Derived.WalkSpells
import Derived.WalkLawsBesides
import Derived.RegionTactic
import Derived.BigQuiet
import Derived.Deep.QuietTactic
import Derived.Deep.Slices
import Derived.Deep.Strs
import Derived.Deep.Fields
import Derived.ChangeSame
import Derived.Handy
import Derived.OwnWalk
import Derived.ChangeSlices
import Derived.Lib.SmallJoins
import Derived.Shelf.Abstract
import Derived.Deep.RegionHeld3
import Derived.Laws.BytesArg
import Derived.Deep.RegionLaw
import Derived.Laws.OwnMore
import Derived.Laws.CopyOwn
import Derived.Laws.Tables
import Derived.BigRegion
import Derived.Maps.AppendAt
import Derived.Stop.Asserts
import Derived.Recover
import Derived.Test.YtmhngodbnoonhaaDoorM01
import Derived.Test.YtmhngodbnoonhaaDoorM02
import Derived.Test.YtmhngodbnoonhaaDoorM04
import Derived.Test.YtmhngodbnoonhaaDoorM07
import Derived.Test.YtmhngodbnoonhaaDoorM08
import Derived.Test.YtmhngodbnoonhaaDoorM15
import Derived.Test.YtmhngodbnoonhaaDoorM16
import Derived.Test.YtmhngodbnoonhaaDoorM17

/-
  A replay's step that halts; what it keeps of an outcome.
-/
namespace Go.Proofs.YtmhngodbnoonhaaDoor
open Go.RowKit
set_option linter.unusedVariables false
set_option linter.unusedSimpArgs false

set_option maxHeartbeats 1000000 in
set_option maxRecDepth 100000 in
theorem rstep_range (g : Nat) (k : Int) (w : World) (hk : inB k 0 2 = false) :
    Calls Tryd.prog 93 #[.pointer (some ⟨g, 0, none⟩), .int .i64 k] w fun e w' => e = .returned (.iface 132 (.int .i64 4)) ∧ w = w' := by
  have kT := isThread_is k
  rw [hk] at kT
  clear hk
  go_enter Tryd.func93, Tryd.ntmps93
  go_wp2_with fail
  refine (kT _).mono ?_
  rintro e w1 ⟨rfl, rfl⟩
  go_wp2
  go_ret
  exact ⟨rfl, rfl⟩

set_option maxHeartbeats 1000000 in
set_option maxRecDepth 100000 in
theorem rstep_done {fv : Value} {w : World} {g : Nat} {cs : Sl × Sl × Sl} {rows : List (List I3)} {m : V4} (h : Rp.MachAt fv w g cs rows m) {k : Nat} (hk : k < 3) (hd : doneM rows m k = true) :
    Calls Tryd.prog 93 #[.pointer (some ⟨g, 0, none⟩), .int .i64 k] w fun e w' => e = .returned (.iface 132 (.int .i64 10)) ∧ Below w.heap.size w w' := by
  have kT := isThread_is k
  have ht : inB (k : Int) 0 2 = true := inB_true.2 (by omega)
  have kD := Rp.doneT_is h hk
  rw [ht] at kT
  rw [hd] at kD
  have hk3 : (k : Int) < 3 := by omega
  clear hd ht h
  go_enter Tryd.func93, Tryd.ntmps93
  go_wp2_with fail
  refine (kT _).mono ?_
  rintro e w1 ⟨rfl, rfl⟩
  clear kT
  go_wp2_with fail
  refine kD.mono ?_
  rintro e w1 ⟨rfl, d, rfl⟩
  go_wp2
  go_ret
  exact ⟨rfl, below_dN _⟩

set_option maxHeartbeats 1000000 in
set_option maxRecDepth 100000 in
theorem rstep_waits {fv : Value} {w : World} {g : Nat} {cs : Sl × Sl × Sl} {rows : List (List I3)} {m : V4} (h : Rp.MachAt fv w g cs rows m) (hp : progOk rows = true) (hs : shapeOk m = true) {k : Nat} (hk : k < 3) (hd : doneM rows m k = false) (hw : waitM rows m k = true) :
    Calls Tryd.prog 93 #[.pointer (some ⟨g, 0, none⟩), .int .i64 k] w fun e w' => e = .returned (.iface 132 (.int .i64 11)) ∧ Below w.heap.size w w' := by
  have kT := isThread_is k
  have ht : inB (k : Int) 0 2 = true := inB_true.2 (by omega)
  have kD := Rp.doneT_is h hk
  have kW := fun W (hM : Rp.MachAt fv W g cs rows m) => Rp.waits_is hM hp hs hk
  rw [ht] at kT
  rw [hd] at kD
  rw [hw] at kW
  have hk3 : (k : Int) < 3 := by omega
  clear hd ht hw hp hs
  go_enter Tryd.func93, Tryd.ntmps93
  go_wp2_with fail
  refine (kT _).mono ?_
  rintro e w1 ⟨rfl, rfl⟩
  clear kT
  go_wp2_with fail
  refine kD.mono ?_
  rintro e w1 ⟨rfl, d, rfl⟩
  clear kD
  go_wp2_with fail
  refine (kW _ (h.below (below_dN _))).mono ?_
  rintro e w1 ⟨rfl, hb⟩
  have bz : Below w.heap.size w w1 := bel_trans (below_dN _) hb
  clear hb kW h
  go_wp2
  go_ret
  exact ⟨rfl, bz⟩

theorem bug_of_halt (v : Value) (w : World) : (Instr.typeAssert (.iface 132 v) 136 40 true).run Tryd.prog w = .ok (.tuple #[.agg #[.int .i64 0, .int .i64 0, .int .i64 0], .bool false]) w := by kernel_rfl
theorem bug_of_bug (v : Value) (w : World) : (Instr.typeAssert (.iface 40 v) 136 40 true).run Tryd.prog w = .ok (.tuple #[v, .bool true]) w := by kernel_rfl
theorem halt_of_halt (v : Value) (w : World) : (Instr.typeAssert (.iface 132 v) 20 132 false).run Tryd.prog w = .ok v w := by kernel_rfl

set_option maxHeartbeats 1000000 in
set_option maxRecDepth 100000 in
theorem keep_halt (g : Nat) (c : Int) (w : World) :
    Calls Tryd.prog 92 #[.pointer (some ⟨g, 0, none⟩), .iface 132 (.int .i64 c)] w fun e w' => e = .panicked [{ v := .iface 132 (.int .i64 c), recovered := false }] ∧ Below w.heap.size w w' := by
  have hA := bug_of_halt
  go_enter Tryd.func92, Tryd.ntmps92
  go_wp2
  exact ⟨rfl, rfl, by go_grown⟩

set_option maxHeartbeats 1000000 in
set_option maxRecDepth 100000 in
theorem keep_ok (g : Nat) (k pc : Int) (w : World) :
    Calls Tryd.prog 92 #[.pointer (some ⟨g, 0, none⟩), .iface 40 (.agg #[.int .i64 0, .int .i64 k, .int .i64 pc])] w fun e w' => e = .returned (.tuple #[]) ∧ Below w.heap.size w w' := by
  have hA := bug_of_bug
  go_enter Tryd.func92, Tryd.ntmps92
  go_wp2
  go_end0
  exact ⟨rfl, by go_grown⟩
end Go.Proofs.YtmhngodbnoonhaaDoor


/-
  What a step turns, in plain words: one of the shared places and locks at most; no other thread's place; its own place grows; who can is who is enabled.
-/
namespace Go.Proofs.YtmhngodbnoonhaaDoor
open Go.RowKit
set_option linter.unusedVariables false

theorem mem_enab {rows : List (List I3)} {m : V4} {k : Nat} : ∀ n, ((k : Int) ∈ enabM rows m n) ↔ k < n ∧ canM rows m k = true
  | 0 => by simp [enabM]
  | n + 1 => by
    have ih := mem_enab (rows := rows) (m := m) (k := k) n
    unfold enabM
    split
    · rename_i h
      simp only [List.mem_append, List.mem_singleton, ih]
      constructor
      · rintro (⟨h1, h2⟩ | h1)
        · exact ⟨by omega, h2⟩
        · obtain rfl : k = n := by omega
          exact ⟨by omega, h⟩
      · rintro ⟨h1, h2⟩
        by_cases e : k = n
        · exact .inr (by omega)
        · exact .inl ⟨by omega, h2⟩
    · rename_i h
      rw [ih]
      constructor
      · rintro ⟨h1, h2⟩
        exact ⟨by omega, h2⟩
      · rintro ⟨h1, h2⟩
        refine ⟨?_, h2⟩
        by_cases e : k = n
        · subst e
          exact absurd h2 h
        · omega
end Go.Proofs.YtmhngodbnoonhaaDoor


/-
  Runs in plain words: what the program keeps and merges at the end is what the specification merges step by step.
-/
namespace Go.Proofs.YtmhngodbnoonhaaDoor
open Go.RowKit
set_option linter.unusedVariables false

def haltM (rows : List (List I3)) (m : V4) (k : Int) : Int :=
  if 0 ≤ k ∧ k ≤ 2 then (if doneM rows m k.toNat then 10 else if canM rows m k.toNat then 0 else 11) else 4
def goM (rows : List (List I3)) (m : V4) (k : Int) : V4 × Int := stepM m (insM rows m k.toNat) k.toNat
def ownM (rows : List (List I3)) (m : V4) (k : Int) : List I3 := if (goM rows m k).2 = 0 then [] else [((goM rows m k).2, k, m.1.getD k.toNat 0)]
def deadM (rows : List (List I3)) (m : V4) : List I3 := if stuckM rows m then [(14, 0, 0)] else []
def foundM (rows : List (List I3)) (m : V4) (k : Int) : List I3 := if stuckM rows (goM rows m k).1 then putB (ownM rows m k) (14, 0, 0) else ownM rows m k

def runI (rows : List (List I3)) : V4 → List I3 → List Int → V4 × List I3 × Int
  | m, fs, [] => (m, fs, 0)
  | m, fs, k :: ks => if haltM rows m k = 0 then runI rows (goM rows m k).1 (fs ++ ownM rows m k) ks else (m, fs, haltM rows m k)
def runS (rows : List (List I3)) : V4 → List I3 → List Int → V4 × List I3 × Int
  | m, out, [] => (m, out, 0)
  | m, out, k :: ks => if haltM rows m k = 0 then runS rows (goM rows m k).1 (mergeB out (foundM rows m k)) ks else (m, out, haltM rows m k)

theorem halt_can {rows : List (List I3)} {m : V4} {k : Int} (h : haltM rows m k = 0) : 0 ≤ k ∧ k ≤ 2 ∧ doneM rows m k.toNat = false ∧ canM rows m k.toNat = true := by
  unfold haltM at h
  split at h
  · rename_i hk
    cases hd : doneM rows m k.toNat
    · cases hc : canM rows m k.toNat
      · rw [hd, hc] at h; simp at h
      · exact ⟨hk.1, hk.2, rfl, rfl⟩
    · rw [hd] at h; simp at h
  · cases h
theorem can_not_stuck {rows : List (List I3)} {m : V4} {k : Nat} (hk : k < 3) (h : canM rows m k = true) : stuckM rows m = false := by
  have hm : (k : Int) ∈ enabM rows m 3 := (mem_enab 3).2 ⟨hk, h⟩
  unfold stuckM
  have hne : ¬ (enabM rows m 3 = []) := fun e => by rw [e] at hm; simp at hm
  simp [hne]
theorem mem_found {rows : List (List I3)} {m : V4} {k : Int} {x : I3} : x ∈ foundM rows m k ↔ x ∈ ownM rows m k ∨ x ∈ deadM rows (goM rows m k).1 := by
  unfold foundM deadM
  cases stuckM rows (goM rows m k).1
  · simp
  · simp only [if_true, mem_putB, List.mem_singleton]
theorem run_same {rows : List (List I3)} : ∀ (ks : List Int) (m : V4) (fs out : List I3), out = mergeB fs (deadM rows m) →
    (runS rows m out ks).1 = (runI rows m fs ks).1 ∧ (runS rows m out ks).2.2 = (runI rows m fs ks).2.2 ∧ (runS rows m out ks).2.1 = mergeB (runI rows m fs ks).2.1 (deadM rows (runI rows m fs ks).1)
  | [], m, fs, out, h => ⟨rfl, rfl, h⟩
  | k :: ks, m, fs, out, h => by
    by_cases hz : haltM rows m k = 0
    · obtain ⟨h0, h2, _, hc⟩ := halt_can hz
      have hst := can_not_stuck (rows := rows) (m := m) (k := k.toNat) (by omega) hc
      have hd : deadM rows m = [] := by unfold deadM; rw [hst]; rfl
      have e1 : runS rows m out (k :: ks) = runS rows (goM rows m k).1 (mergeB out (foundM rows m k)) ks := by
        show (if haltM rows m k = 0 then _ else _) = _
        rw [if_pos hz]
      have e2 : runI rows m fs (k :: ks) = runI rows (goM rows m k).1 (fs ++ ownM rows m k) ks := by
        show (if haltM rows m k = 0 then _ else _) = _
        rw [if_pos hz]
      rw [e1, e2]
      refine run_same ks _ _ _ ((mergeB_rises _ _).same (mergeB_rises _ _) fun x => ?_)
      rw [mem_mergeB, mem_mergeB, h, mem_mergeB, hd, mem_found, List.mem_append]
      simp only [List.not_mem_nil, or_false, or_assoc]
    · have e1 : runS rows m out (k :: ks) = (m, out, haltM rows m k) := by
        show (if haltM rows m k = 0 then _ else _) = _
        rw [if_neg hz]
      have e2 : runI rows m fs (k :: ks) = (m, fs, haltM rows m k) := by
        show (if haltM rows m k = 0 then _ else _) = _
        rw [if_neg hz]
      rw [e1, e2]
      exact ⟨rfl, rfl, h⟩
end Go.Proofs.YtmhngodbnoonhaaDoor


/-
  A replay's run: step by step, up to what halts it; a halt is a panic, which is recovered.
-/
namespace Go.Proofs.YtmhngodbnoonhaaDoor
open Go.RowKit
set_option linter.unusedVariables false
set_option linter.unusedSimpArgs false

set_option maxRecDepth 100000 in
theorem catch_halt (p : Addr) (x : Value) (c : Int) (older : List PanicEntry) (w : World) (hc : w.cell? p = some x) (hz : w.frozen? p = false) :
    CallsD Tryd.prog 90 #[.pointer (some p)] (.panicking ({ v := .iface 132 (.int .i64 c), recovered := false } :: older)) w fun e u' w' =>
      e = .returned (.tuple #[]) ∧ u' = .panicking ({ v := .iface 132 (.int .i64 c), recovered := true } :: older) ∧ w' = w.setCell p (.int .i64 c) := by
  have hA := halt_of_halt
  refine callsD_of_wpS Tryd.func90 rfl fun c₀ cs hu => ?_
  apply wpS_seq
  apply wpS_region
  simp [wpOpsS, go_sem, recoverD, hu, Tryd.ntmps90, Exit.thenS]
  refine wpS_of_wp ?_
  show Code.wp Tryd.prog _ _ { tmps := #[.pointer (some p), .iface 132 (.int .i64 c), .iface 132 (.int .i64 c), undef, undef, undef, undef, undef], defers := [] } w
  go_wp2
  exact ⟨rfl, _, rfl, _, results_none rfl _ _ _, rfl, rfl, rfl⟩

set_option maxRecDepth 100000 in
theorem catch_idle (p : Addr) (w : World) :
    CallsD Tryd.prog 90 #[.pointer (some p)] .returning w fun e u' w' => e = .returned (.tuple #[]) ∧ u' = .returning ∧ w' = w := by
  refine callsD_of_wpS Tryd.func90 rfl fun c₀ cs hu => ?_
  apply wpS_seq
  apply wpS_region
  simp [wpOpsS, go_sem, recoverD, hu, Tryd.ntmps90, Exit.thenS]
  refine wpS_of_wp ?_
  show Code.wp Tryd.prog _ _ { tmps := #[.pointer (some p), .nilIface, .nilIface, undef, undef, undef, undef, undef], defers := [] } w
  go_wp2
  exact ⟨rfl, .returning, by cases c₀; simp_all, _, results_none rfl _ _ _, rfl, rfl, rfl⟩
end Go.Proofs.YtmhngodbnoonhaaDoor

