/-
  FnExactEventsOf, part 15 of 50 (RpA, OwnS).
-/
import Derived.Test.YtgjmangbigibbaaDoorJ12
import Derived.Test.YtgjmangbigibbaaDoorJ14
import Derived.Stop.Asserts
import Derived.Test.YtgjmangbigibbaaDoorJ08

/-
  A replay's step that halts; what it keeps of an outcome.
-/
namespace Go.Proofs.YtgjmangbigibbaaDoor
open Go.RowKit
set_option linter.unusedVariables false
set_option linter.unusedSimpArgs false

set_option maxHeartbeats 1000000 in
set_option maxRecDepth 100000 in
theorem rstep_range (g : Nat) (k : Int) (w : World) (hk : inB k 0 2 = false) :
    Calls Tryd.prog 93 #[.pointer (some ⟨g, 0, none⟩), .int .i64 k] w fun e w' => e = .returned (.iface 132 (.int .i64 4)) ∧ w = w' := by
  have kT := isThread_is k
  rw [hk] at kT
  clear hk
  go_enter Tryd.func93, Tryd.ntmps93
  go_wp2_with fail
  refine (kT _).mono ?_
  rintro e w1 ⟨rfl, rfl⟩
  go_wp2
  go_ret
  exact ⟨rfl, rfl⟩

set_option maxHeartbeats 1000000 in
set_option maxRecDepth 100000 in
theorem rstep_done {fv : Value} {w : World} {g : Nat} {cs : Sl × Sl × Sl} {rows : List (List I3)} {m : V4} (h : Rp.MachAt fv w g cs rows m) {k : Nat} (hk : k < 3) (hd : doneM rows m k = true) :
    Calls Tryd.prog 93 #[.pointer (some ⟨g, 0, none⟩), .int .i64 k] w fun e w' => e = .returned (.iface 132 (.int .i64 10)) ∧ Below w.heap.size w w' := by
  have kT := isThread_is k
  have ht : inB (k : Int) 0 2 = true := inB_true.2 (by omega)
  have kD := Rp.doneT_is h hk
  rw [ht] at kT
  rw [hd] at kD
  have hk3 : (k : Int) < 3 := by omega
  clear hd ht h
  go_enter Tryd.func93, Tryd.ntmps93
  go_wp2_with fail
  refine (kT _).mono ?_
  rintro e w1 ⟨rfl, rfl⟩
  clear kT
  go_wp2_with fail
  refine kD.mono ?_
  rintro e w1 ⟨rfl, d, rfl⟩
  go_wp2
  go_ret
  exact ⟨rfl, below_dN _⟩

set_option maxHeartbeats 1000000 in
set_option maxRecDepth 100000 in
theorem rstep_waits {fv : Value} {w : World} {g : Nat} {cs : Sl × Sl × Sl} {rows : List (List I3)} {m : V4} (h : Rp.MachAt fv w g cs rows m) (hp : progOk rows = true) (hs : shapeOk m = true) {k : Nat} (hk : k < 3) (hd : doneM rows m k = false) (hw : waitM rows m k = true) :
    Calls Tryd.prog 93 #[.pointer (some ⟨g, 0, none⟩), .int .i64 k] w fun e w' => e = .returned (.iface 132 (.int .i64 11)) ∧ Below w.heap.size w w' := by
  have kT := isThread_is k
  have ht : inB (k : Int) 0 2 = true := inB_true.2 (by omega)
  have kD := Rp.doneT_is h hk
  have kW := fun W (hM : Rp.MachAt fv W g cs rows m) => Rp.waits_is hM hp hs hk
  rw [ht] at kT
  rw [hd] at kD
  rw [hw] at kW
  have hk3 : (k : Int) < 3 := by omega
  clear hd ht hw hp hs
  go_enter Tryd.func93, Tryd.ntmps93
  go_wp2_with fail
  refine (kT _).mono ?_
  rintro e w1 ⟨rfl, rfl⟩
  clear kT
  go_wp2_with fail
  refine kD.mono ?_
  rintro e w1 ⟨rfl, d, rfl⟩
  clear kD
  go_wp2_with fail
  refine (kW _ (h.below (below_dN _))).mono ?_
  rintro e w1 ⟨rfl, hb⟩
  have bz : Below w.heap.size w w1 := bel_trans (below_dN _) hb
  clear hb kW h
  go_wp2
  go_ret
  exact ⟨rfl, bz⟩

theorem bug_of_halt (v : Value) (w : World) : (Instr.typeAssert (.iface 132 v) 136 40 true).run Tryd.prog w = .ok (.tuple #[.agg #[.int .i64 0, .int .i64 0, .int .i64 0], .bool false]) w := by kernel_rfl
theorem bug_of_bug (v : Value) (w : World) : (Instr.typeAssert (.iface 40 v) 136 40 true).run Tryd.prog w = .ok (.tuple #[v, .bool true]) w := by kernel_rfl
theorem halt_of_halt (v : Value) (w : World) : (Instr.typeAssert (.iface 132 v) 20 132 false).run Tryd.prog w = .ok v w := by kernel_rfl

set_option maxHeartbeats 1000000 in
set_option maxRecDepth 100000 in
theorem keep_halt (g : Nat) (c : Int) (w : World) :
    Calls Tryd.prog 92 #[.pointer (some ⟨g, 0, none⟩), .iface 132 (.int .i64 c)] w fun e w' => e = .panicked [{ v := .iface 132 (.int .i64 c), recovered := false }] ∧ Below w.heap.size w w' := by
  have hA := bug_of_halt
  go_enter Tryd.func92, Tryd.ntmps92
  go_wp2
  exact ⟨rfl, rfl, by go_grown⟩

set_option maxHeartbeats 1000000 in
set_option maxRecDepth 100000 in
theorem keep_ok (g : Nat) (k pc : Int) (w : World) :
    Calls Tryd.prog 92 #[.pointer (some ⟨g, 0, none⟩), .iface 40 (.agg #[.int .i64 0, .int .i64 k, .int .i64 pc])] w fun e w' => e = .returned (.tuple #[]) ∧ Below w.heap.size w w' := by
  have hA := bug_of_bug
  go_enter Tryd.func92, Tryd.ntmps92
  go_wp2
  go_end0
  exact ⟨rfl, by go_grown⟩
end Go.Proofs.YtgjmangbigibbaaDoor


/-
  A state in memory of its own: its cells, and what a store into one of its rows leaves.
-/
namespace Go.Proofs.YtgjmangbigibbaaDoor
open Go.RowKit

theorem OwnI.at9 {w : World} {B g n c : Nat} {zs : List Int} (h : OwnI w B (some ⟨g, 0, none⟩, n, c) zs) {j : Nat} (hj : j < n) : w.cell? ⟨g, j, none⟩ = some (.int .i64 (zs.getD j 0)) := by
  have hl := h.len
  simp only at hl
  have := h.cellAt j (by simp only; omega)
  rw [this]
  simp [List.getElem?_eq_getElem (show j < zs.length by omega)]
theorem OwnI.frz9 {w : World} {B g n c : Nat} {zs : List Int} (h : OwnI w B (some ⟨g, 0, none⟩, n, c) zs) (j : Nat) : w.frozen? ⟨g, j, none⟩ = false := h.frozenAt j
theorem OwnI.set9 {w : World} {B g n c : Nat} {zs : List Int} (h : OwnI w B (some ⟨g, 0, none⟩, n, c) zs) (j : Nat) (v : Int) : OwnI (w.setCell ⟨g, j, none⟩ (.int .i64 v)) B (some ⟨g, 0, none⟩, n, c) (zs.set j v) := by
  have := (h.stored j (.int .i64 v)).1
  rw [← List.map_set] at this
  exact this
theorem OwnI.away9 {w : World} {B g n c : Nat} {s : Sl} {zs : List Int} (h : OwnI w B s zs) (ha : Apart (some ⟨g, 0, none⟩, n, c) s) (j : Nat) (v : Value) : OwnI (w.setCell ⟨g, j, none⟩ v) B s zs :=
  ownsRow_setCell_other h (fun e => ha g rfl e) v
theorem OwnI.lo9 {w : World} {B g n c : Nat} {zs : List Int} (h : OwnI w B (some ⟨g, 0, none⟩, n, c) zs) : B ≤ g ∧ g < w.heap.size := h.lt g rfl

section
variable {w : World} {B g n c : Nat} {s0 s1 s2 s3 : Sl} {m : V4}
theorem OwnV.set0 (h : OwnV w B ((some ⟨g, 0, none⟩, n, c), s1, s2, s3) m) (j : Nat) (v : Int) : OwnV (w.setCell ⟨g, j, none⟩ (.int .i64 v)) B ((some ⟨g, 0, none⟩, n, c), s1, s2, s3) (m.1.set j v, m.2) :=
  ⟨⟨h.1.1.set9 j v, h.1.2.1.away9 h.2.1 j _, h.1.2.2.1.away9 h.2.2.1 j _, h.1.2.2.2.away9 h.2.2.2.1 j _⟩, h.2⟩
theorem OwnV.set1 (h : OwnV w B (s0, (some ⟨g, 0, none⟩, n, c), s2, s3) m) (j : Nat) (v : Int) : OwnV (w.setCell ⟨g, j, none⟩ (.int .i64 v)) B (s0, (some ⟨g, 0, none⟩, n, c), s2, s3) (m.1, m.2.1.set j v, m.2.2) :=
  ⟨⟨h.1.1.away9 h.2.1.symm j _, h.1.2.1.set9 j v, h.1.2.2.1.away9 h.2.2.2.2.1 j _, h.1.2.2.2.away9 h.2.2.2.2.2.1 j _⟩, h.2⟩
theorem OwnV.set2 (h : OwnV w B (s0, s1, (some ⟨g, 0, none⟩, n, c), s3) m) (j : Nat) (v : Int) : OwnV (w.setCell ⟨g, j, none⟩ (.int .i64 v)) B (s0, s1, (some ⟨g, 0, none⟩, n, c), s3) (m.1, m.2.1, m.2.2.1.set j v, m.2.2.2) :=
  ⟨⟨h.1.1.away9 h.2.2.1.symm j _, h.1.2.1.away9 h.2.2.2.2.1.symm j _, h.1.2.2.1.set9 j v, h.1.2.2.2.away9 h.2.2.2.2.2.2 j _⟩, h.2⟩
theorem OwnV.set3 (h : OwnV w B (s0, s1, s2, (some ⟨g, 0, none⟩, n, c)) m) (j : Nat) (v : Int) : OwnV (w.setCell ⟨g, j, none⟩ (.int .i64 v)) B (s0, s1, s2, (some ⟨g, 0, none⟩, n, c)) (m.1, m.2.1, m.2.2.1, m.2.2.2.set j v) :=
  ⟨⟨h.1.1.away9 h.2.2.2.1.symm j _, h.1.2.1.away9 h.2.2.2.2.2.1.symm j _, h.1.2.2.1.away9 h.2.2.2.2.2.2.symm j _, h.1.2.2.2.set9 j v⟩, h.2⟩
end
theorem OwnI.some9 {w : World} {B : Nat} {s : Sl} {zs : List Int} {k : Nat} (h : OwnI w B s zs) (hl : zs.length = k) (hk : 0 < k) : ∃ g c, s = (some ⟨g, 0, none⟩, k, c) ∧ k ≤ c ∧ c ≤ maxLen := by
  have hi := h.ints
  rcases Sl.some_or h with ⟨rfl, rfl⟩ | ⟨g, n, c, rfl⟩
  · simp at hl; omega
  · obtain ⟨h1, h2, h3, _⟩ := hi
    simp only at h1 h2 h3
    exact ⟨g, c, by rw [← h1, hl], by omega, h3⟩
/-- A block of another type than int is none of a state's rows. -/
theorem OwnV.ne9 {w : World} {B g n c X t : Nat} {s1 s2 s3 : Sl} {m : V4} {cs : List Value} (h : OwnV w B ((some ⟨g, 0, none⟩, n, c), s1, s2, s3) m) (hX : Blk w X t cs) (ht : 3 ≠ t) : X ≠ g := fun e => own_ne_blk9 h.1.1 hX ht (by rw [e]; rfl)
theorem OwnI.ne9 {w : World} {B g n c X t : Nat} {zs : List Int} {cs : List Value} (h : OwnI w B (some ⟨g, 0, none⟩, n, c) zs) (hX : Blk w X t cs) (ht : 3 ≠ t) : X ≠ g := fun e => own_ne_blk9 h hX ht (by rw [e]; rfl)
theorem ownV_nil (w : World) (B : Nat) : OwnV w B ((none, 0, 0), (none, 0, 0), (none, 0, 0), (none, 0, 0)) ([], [], [], []) := by
  have h : OwnI w B (none, 0, 0) [] := World.ownsRow_nil _ _ _ _
  have a : Apart (none, 0, 0) (none, 0, 0) := fun g hg => by simp [Value.ownBlock] at hg
  exact ⟨⟨h, h, h, h⟩, a, a, a, a, a, a⟩
theorem OwnI.kept9 {w w' : World} {B X t : Nat} {s : Sl} {zs : List Int} {cs : List Value} (h : OwnI w B s zs) (hg : w.grownBy w' (some X)) (hX : Blk w X t cs) (ht : 3 ≠ t) : OwnI w' B s zs := World.ownsRow.kept h hg (.inr (own_ne_blk9 h hX ht))
theorem OwnI.awayB9 {w : World} {B X t : Nat} {s : Sl} {zs : List Int} {cs : List Value} (h : OwnI w B s zs) (hX : Blk w X t cs) (ht : 3 ≠ t) (j : Nat) (v : Value) : OwnI (w.setCell ⟨X, j, none⟩ v) B s zs := ownsRow_setCell_other h (own_ne_blk9 h hX ht) v
theorem OwnV.awayB9 {w : World} {B X t : Nat} {s : S4} {m : V4} {cs : List Value} (h : OwnV w B s m) (hX : Blk w X t cs) (ht : 3 ≠ t) (j : Nat) (v : Value) : OwnV (w.setCell ⟨X, j, none⟩ v) B s m := ⟨⟨h.1.1.awayB9 hX ht j v, h.1.2.1.awayB9 hX ht j v, h.1.2.2.1.awayB9 hX ht j v, h.1.2.2.2.awayB9 hX ht j v⟩, h.2⟩
/-- A state over a store into a block of another type. -/
theorem OwnV.kept9 {w w' : World} {B X t : Nat} {s : S4} {m : V4} {cs : List Value} (h : OwnV w B s m) (hg : w.grownBy w' (some X)) (hX : Blk w X t cs) (ht : 3 ≠ t) : OwnV w' B s m := ⟨⟨h.1.1.kept9 hg hX ht, h.1.2.1.kept9 hg hX ht, h.1.2.2.1.kept9 hg hX ht, h.1.2.2.2.kept9 hg hX ht⟩, h.2⟩
end Go.Proofs.YtgjmangbigibbaaDoor
