/-
  Joined: VmDraw, RyI, RpA.
-/
import Derived.Test.YtmhngodbnoonhaaGreatDoorK27
import Derived.Test.YtmhngodbnoonhaaGreatDoorK34
import Derived.Test.YtmhngodbnoonhaaGreatDoorK19
import Derived.Test.YtmhngodbnoonhaaGreatDoorK17
import Derived.Test.YtmhngodbnoonhaaGreatDoorK10
import Derived.Test.YtmhngodbnoonhaaGreatDoorK11
import Derived.Test.YtmhngodbnoonhaaGreatDoorK23
import Derived.Test.YtmhngodbnoonhaaGreatDoorK26
import Derived.Stop.Asserts

/-
  The specification's drawn state: a state that a program comes to, in memory of its own; it has its shape.
-/
namespace Go.Proofs.YtmhngodbnoonhaaGreatDoor
open Go.RowKit
set_option linter.unusedVariables false
set_option linter.unusedSimpArgs false

theorem Went.of_below {p : Nat} {w w' : World} (h : Below w.heap.size w w') : Went p w w' := ⟨h.os, h.tape, h.output, h.size, fun k hk _ => h.block k hk⟩
theorem Blk.went {p g t : Nat} {w w' : World} {cs : List Value} (h : Blk w g t cs) (hw : Went p w w') (hne : g ≠ p) : Blk w' g t cs := h.kept hw (fun e => hne (by cases e; rfl))
theorem OwnV.went {p B : Nat} {w w' : World} {s : S4} {m : V4} (h : OwnV w B s m) (hw : Went p w w') (hp : p < B) : OwnV w' B s m := ⟨⟨owns_wn h.1.1 hw hp, owns_wn h.1.2.1 hw hp, owns_wn h.1.2.2.1 hw hp, owns_wn h.1.2.2.2 hw hp⟩, h.2⟩
theorem OwnI.went {p B : Nat} {w w' : World} {s : Sl} {zs : List Int} (h : OwnI w B s zs) (hw : Went p w w') (hp : p < B) : OwnI w' B s zs := owns_wn h hw hp
theorem OwnV.lowerB {B B' : Nat} {w : World} {s : S4} {m : V4} (h : OwnV w B s m) (hB : B' ≤ B) : OwnV w B' s m := ⟨⟨own_lower h.1.1 hB, own_lower h.1.2.1 hB, own_lower h.1.2.2.1 hB, own_lower h.1.2.2.2 hB⟩, h.2⟩
theorem Src.belowD {p T : Nat} {c : Value} {w w' : World} (h : Src w p c T) (hb : Below w.heap.size w w') : Src w' p c T := h.grown (row := none) ⟨hb.os, hb.tape, hb.output, hb.size, fun k hk _ => hb.block k hk⟩ (fun k e => by cases e)
theorem zero_shape : shapeOk zeroV = true := by decide
/-- The four cells of a state's struct. -/
def vmC (t : S4) : List Value := [.slice t.1.1 t.1.2.1 t.1.2.2, .slice t.2.1.1 t.2.1.2.1 t.2.1.2.2, .slice t.2.2.1.1 t.2.2.1.2.1 t.2.2.1.2.2, .slice t.2.2.2.1 t.2.2.2.2.1 t.2.2.2.2.2]
theorem step_store_blkD {P : Program} {ops : Array Oper} {o : Oper} {a : Act} {w : World} {K : Act → World → Prop} {Q : Exit → Act → World → Prop} {E : Prop} (hgd : o.guard = none) (ty : TypeId) (x y : Operand) (ho : o.op = .store ty x y) (g : Nat) (vs : List Value) (hx : a.eval x = .pointer (some ⟨g, 0, none⟩)) (hy : a.eval y = .agg vs.toArray) {t : Nat} {cs : List Value} (hB : Blk w g t cs)
    (hi : (P.info? ty).map (·.size) = some vs.length) (hl : cs.length = vs.length) (h1 : vs.all (·.oneCell') = true)
    (h : ∀ w', Hid (Blk w' g t vs) → w.grownBy w' (some g) → K (a.put o.dst undef) w') : if Region.wanted o (yielded ops a.tmps) = true then Oper.wp P o a w K Q else E := by
  have hw : Region.wanted o (yielded ops a.tmps) = true := by simp [Region.wanted, hgd]
  rw [if_pos hw]
  exact wp_store_row ty x y ho g vs.toArray hx hy t cs.toArray hB (by simpa using hi) (by simpa using hl) (by simpa using h1) (h _ (blk_setRow vs hB) (grown_setRow _ _ _))
theorem cellsD {U : World} {X3 X5 lg ll lc B t3 t5 : Nat} {y x0 x1 x2 x3 : Value} {es : List Int} (pP : Blk U X3 t3 [y]) (pX : Blk U X5 t5 [x0, x1, x2, x3]) (hL : OwnI U B (some ⟨lg, 0, none⟩, ll, lc) es) :
    U.cell? ⟨X3, 0, none⟩ = some y ∧ U.cell? ⟨X5, 0, none⟩ = some x0 ∧ U.cell? ⟨X5, 1, none⟩ = some x1 ∧ U.cell? ⟨X5, 2, none⟩ = some x2 ∧ U.cell? ⟨X5, 3, none⟩ = some x3 ∧ ∀ j, j < ll → U.cell? ⟨lg, j, none⟩ = some (.int .i64 (es.getD j 0)) := ⟨pP.cell 0, pX.cell 0, pX.cell 1, pX.cell 2, pX.cell 3, fun j hj => hL.at9 hj⟩
theorem size_vm : (Tryz.prog.info? 33).map (·.size) = some 4 := by kernel_rfl
/-- What is known on the way. -/
def OnWay (w wr : World) (p : Nat) (cd : Value) (a : Option Addr) (n cap T X5 : Nat) (aP : Option Addr) (capP : Nat) (t : S4) (m : V4) : Prop :=
  Src wr p cd T ∧ Code wr p a n cap ∧ p < wr.heap.size ∧ Went p w wr ∧ Blk wr w.heap.size 25 [.slice aP 3 capP] ∧ Blk wr (w.heap.size + 1) 33 [.slice none 0 0, .slice none 0 0, .slice none 0 0, .slice none 0 0] ∧ Blk wr X5 33 (vmC t) ∧ OwnV wr (w.heap.size + 2) t m ∧ Hid (shapeOk m = true)


end Go.Proofs.YtmhngodbnoonhaaGreatDoor



/-
  A replay in memory: its machine's cells, and behind them what it found.
-/
namespace Go.Proofs.YtmhngodbnoonhaaGreatDoor
namespace Rp
open Go.RowKit
set_option linter.unusedVariables false
set_option linter.unusedSimpArgs false
variable {fv : Value}

/-- A replay's cells. -/
def machR (fv c0 c1 c2 : Value) (m : V4) : List Value :=
  [c0, .int .i64 (m.1.getD 0 0), .int .i64 (m.2.2.2.getD 0 0), .int .i64 (m.2.2.2.getD 1 0),
   c1, .int .i64 (m.1.getD 1 0), .int .i64 (m.2.2.2.getD 2 0), .int .i64 (m.2.2.2.getD 3 0),
   c2, .int .i64 (m.1.getD 2 0), .int .i64 (m.2.2.2.getD 4 0), .int .i64 (m.2.2.2.getD 5 0),
   .int .i64 (m.2.1.getD 0 0), .int .i64 (m.2.1.getD 1 0), .int .i64 (m.2.1.getD 2 0), .int .i64 (m.2.1.getD 3 0),
   .int .i64 (m.2.2.1.getD 0 0), .int .i64 (m.2.2.1.getD 1 0), fv]
theorem machR_found (fv c0 c1 c2 : Value) (m : V4) : (machR fv c0 c1 c2 m)[18]? = some fv := rfl
theorem machR_set (fv fv' c0 c1 c2 : Value) (m : V4) : (machR fv c0 c1 c2 m).set 18 fv' = machR fv' c0 c1 c2 m := rfl
section
variable (c0 c1 c2 : Value) (m : V4)
theorem mc_code {k : Nat} (hk : k < 3) : (machR fv c0 c1 c2 m)[k * 4]? = some (codeV c0 c1 c2 k) := by
  match k, hk with
  | 0, _ => rfl
  | 1, _ => rfl
  | 2, _ => rfl
theorem mc_pc {k : Nat} (hk : k < 3) : (machR fv c0 c1 c2 m)[k * 4 + 1]? = some (.int .i64 (m.1.getD k 0)) := by
  match k, hk with
  | 0, _ => rfl
  | 1, _ => rfl
  | 2, _ => rfl
theorem mc_reg {k a : Nat} (hk : k < 3) (ha : a < 2) : (machR fv c0 c1 c2 m)[k * 4 + 2 + a]? = some (.int .i64 (m.2.2.2.getD (k * 2 + a) 0)) := by
  match k, hk, a, ha with
  | 0, _, 0, _ => rfl
  | 1, _, 0, _ => rfl
  | 2, _, 0, _ => rfl
  | 0, _, 1, _ => rfl
  | 1, _, 1, _ => rfl
  | 2, _, 1, _ => rfl
theorem mc_var {a : Nat} (ha : a < 4) : (machR fv c0 c1 c2 m)[12 + a]? = some (.int .i64 (m.2.1.getD a 0)) := by
  match a, ha with
  | 0, _ => rfl
  | 1, _ => rfl
  | 2, _ => rfl
  | 3, _ => rfl
theorem mc_held {a : Nat} (ha : a < 2) : (machR fv c0 c1 c2 m)[16 + a]? = some (.int .i64 (m.2.2.1.getD a 0)) := by
  match a, ha with
  | 0, _ => rfl
  | 1, _ => rfl
end
section
variable (c0 c1 c2 : Value) (m : V4) (h : LenOk m)
include h
theorem mt_pc {k : Nat} (hk : k < 3) (v : Int) : (machR fv c0 c1 c2 m).set (k * 4 + 1) (.int .i64 v) = machR fv c0 c1 c2 (m.1.set k v, m.2) := by
  obtain ⟨p0, p1, p2, v0, v1, v2, v3, h0, h1, x0, y0, x1, y1, x2, y2, rfl⟩ := h.lists
  match k, hk with
  | 0, _ => rfl
  | 1, _ => rfl
  | 2, _ => rfl
theorem mt_reg {k a : Nat} (hk : k < 3) (ha : a < 2) (v : Int) : (machR fv c0 c1 c2 m).set (k * 4 + 2 + a) (.int .i64 v) = machR fv c0 c1 c2 (m.1, m.2.1, m.2.2.1, m.2.2.2.set (k * 2 + a) v) := by
  obtain ⟨p0, p1, p2, v0, v1, v2, v3, h0, h1, x0, y0, x1, y1, x2, y2, rfl⟩ := h.lists
  match k, hk, a, ha with
  | 0, _, 0, _ => rfl
  | 1, _, 0, _ => rfl
  | 2, _, 0, _ => rfl
  | 0, _, 1, _ => rfl
  | 1, _, 1, _ => rfl
  | 2, _, 1, _ => rfl
theorem mt_var {a : Nat} (ha : a < 4) (v : Int) : (machR fv c0 c1 c2 m).set (12 + a) (.int .i64 v) = machR fv c0 c1 c2 (m.1, m.2.1.set a v, m.2.2.1, m.2.2.2) := by
  obtain ⟨p0, p1, p2, v0, v1, v2, v3, h0, h1, x0, y0, x1, y1, x2, y2, rfl⟩ := h.lists
  match a, ha with
  | 0, _ => rfl
  | 1, _ => rfl
  | 2, _ => rfl
  | 3, _ => rfl
theorem mt_held {a : Nat} (ha : a < 2) (v : Int) : (machR fv c0 c1 c2 m).set (16 + a) (.int .i64 v) = machR fv c0 c1 c2 (m.1, m.2.1, m.2.2.1.set a v, m.2.2.2) := by
  obtain ⟨p0, p1, p2, v0, v1, v2, v3, h0, h1, x0, y0, x1, y1, x2, y2, rfl⟩ := h.lists
  match a, ha with
  | 0, _ => rfl
  | 1, _ => rfl
end
/-- A machine in memory: its block whole, and its threads' codes. -/
def MachAt (fv : Value) (w : World) (g : Nat) (cs : Sl × Sl × Sl) (rows : List (List I3)) (m : V4) : Prop :=
  Blk w g 73 (machR fv cs.1.val cs.2.1.val cs.2.2.val m) ∧ ∀ k, k < 3 → Instrs w (slK cs k).1 (slK cs k).2.1 (slK cs k).2.2 (codeM rows k)
theorem MachAt.below {w w' : World} {g : Nat} {cs : Sl × Sl × Sl} {rows : List (List I3)} {m : V4} (h : MachAt fv w g cs rows m) (hb : Below w.heap.size w w') : MachAt fv w' g cs rows m := ⟨h.1.below hb, fun k hk => (h.2 k hk).below hb⟩
theorem MachAt.code {w : World} {g : Nat} {cs : Sl × Sl × Sl} {rows : List (List I3)} {m : V4} (h : MachAt fv w g cs rows m) {k : Nat} (hk : k < 3) : w.cell? ⟨g, k * 4, none⟩ = some (.slice (slK cs k).1 (slK cs k).2.1 (slK cs k).2.2) := by
  rw [h.1.cell, mc_code _ _ _ _ hk, codeV_sl cs hk]; rfl
theorem MachAt.pc {w : World} {g : Nat} {cs : Sl × Sl × Sl} {rows : List (List I3)} {m : V4} (h : MachAt fv w g cs rows m) {k : Nat} (hk : k < 3) : w.cell? ⟨g, k * 4 + 1, none⟩ = some (.int .i64 (m.1.getD k 0)) := by
  rw [h.1.cell, mc_pc _ _ _ _ hk]
theorem MachAt.reg {w : World} {g : Nat} {cs : Sl × Sl × Sl} {rows : List (List I3)} {m : V4} (h : MachAt fv w g cs rows m) {k a : Nat} (hk : k < 3) (ha : a < 2) : w.cell? ⟨g, k * 4 + 2 + a, none⟩ = some (.int .i64 (m.2.2.2.getD (k * 2 + a) 0)) := by
  rw [h.1.cell, mc_reg _ _ _ _ hk ha]
theorem MachAt.var {w : World} {g : Nat} {cs : Sl × Sl × Sl} {rows : List (List I3)} {m : V4} (h : MachAt fv w g cs rows m) {a : Nat} (ha : a < 4) : w.cell? ⟨g, 12 + a, none⟩ = some (.int .i64 (m.2.1.getD a 0)) := by
  rw [h.1.cell, mc_var _ _ _ _ ha]
theorem MachAt.held {w : World} {g : Nat} {cs : Sl × Sl × Sl} {rows : List (List I3)} {m : V4} (h : MachAt fv w g cs rows m) {a : Nat} (ha : a < 2) : w.cell? ⟨g, 16 + a, none⟩ = some (.int .i64 (m.2.2.1.getD a 0)) := by
  rw [h.1.cell, mc_held _ _ _ _ ha]
theorem doneT_is {w : World} {g : Nat} {cs : Sl × Sl × Sl} {rows : List (List I3)} {m : V4} (h : MachAt fv w g cs rows m) {k : Nat} (hk : k < 3) :
    Calls Tryz.prog 92 #[.pointer (some ⟨g, k * 4, none⟩)] w fun e w' => e = .returned (.bool (doneM rows m k)) ∧ ∃ d, w' = w.drewN d := by
  have hl := (h.2 k hk).1
  have := done_is g (k * 4) _ _ _ _ w (h.code hk) (h.pc hk)
  unfold doneM
  rw [hl]
  exact this
theorem waits_is {w : World} {g : Nat} {cs : Sl × Sl × Sl} {rows : List (List I3)} {m : V4} (h : MachAt fv w g cs rows m) (hp : progOk rows = true) (hs : shapeOk m = true) {k : Nat} (hk : k < 3) :
    Calls Tryz.prog 93 #[.pointer (some ⟨g, 0, none⟩), .int .i64 k] w fun e w' => e = .returned (.bool (waitM rows m k)) ∧ Below w.heap.size w w' := by
  unfold waitM
  cases hd : doneM rows m k
  · obtain ⟨p, ep, hlt, hi, hok⟩ := at_ins hp hs hk hd
    have h0 := h.code hk
    have h1 := h.pc hk
    rw [ep] at h1
    obtain ⟨b, off, ea, hpn, c0, c1, c2⟩ := ins_at (h.2 k hk) hlt
    rw [← hi] at c0 c1 c2
    rw [ea] at h0
    by_cases h5 : (insM rows m k).1 = 5
    · obtain ⟨q, hq, hq2⟩ := okI_lock hok h5
      rw [h5] at c0
      rw [hq] at c1
      have hh := h.held hq2
      have e : atLock m (insM rows m k) = !decide (m.2.2.1.getD q 0 = 0) := by
        unfold atLock
        rw [h5, hq]
        simp
      rw [e]
      exact waits_lock g k p b off _ _ _ q _ w hk hpn h0 h1 c0 c1 c2 hh hq2 _ rfl
    · have e : atLock m (insM rows m k) = false := by unfold atLock; simp [h5]
      rw [e]
      exact waits_free g k p b off _ _ _ _ _ w hk hpn h0 h1 c0 c1 c2 h5
  · have h0 := h.code hk
    have h1 := h.pc hk
    unfold doneM at hd
    simp only [decide_eq_true_eq] at hd
    rw [(h.2 k hk).1] at hd
    exact waits_done g k _ _ _ _ w hk h0 h1 hd

end Rp
end Go.Proofs.YtmhngodbnoonhaaGreatDoor


/-
  A replay's step that halts; what it keeps of an outcome.
-/
namespace Go.Proofs.YtmhngodbnoonhaaGreatDoor
open Go.RowKit
set_option linter.unusedVariables false
set_option linter.unusedSimpArgs false

set_option maxHeartbeats 1000000 in
set_option maxRecDepth 100000 in
theorem rstep_range (g : Nat) (k : Int) (w : World) (hk : inB k 0 2 = false) :
    Calls Tryz.prog 66 #[.pointer (some ⟨g, 0, none⟩), .int .i64 k] w fun e w' => e = .returned (.iface 110 (.int .i64 4)) ∧ w = w' := by
  have kT := isThread_is k
  rw [hk] at kT
  clear hk
  go_enter Tryz.func66, Tryz.ntmps66
  go_wp2_with fail
  refine (kT _).mono ?_
  rintro e w1 ⟨rfl, rfl⟩
  go_wp2
  go_ret
  exact ⟨rfl, rfl⟩

set_option maxHeartbeats 1000000 in
set_option maxRecDepth 100000 in
theorem rstep_done {fv : Value} {w : World} {g : Nat} {cs : Sl × Sl × Sl} {rows : List (List I3)} {m : V4} (h : Rp.MachAt fv w g cs rows m) {k : Nat} (hk : k < 3) (hd : doneM rows m k = true) :
    Calls Tryz.prog 66 #[.pointer (some ⟨g, 0, none⟩), .int .i64 k] w fun e w' => e = .returned (.iface 110 (.int .i64 10)) ∧ Below w.heap.size w w' := by
  have kT := isThread_is k
  have ht : inB (k : Int) 0 2 = true := inB_true.2 (by omega)
  have kD := Rp.doneT_is h hk
  rw [ht] at kT
  rw [hd] at kD
  have hk3 : (k : Int) < 3 := by omega
  clear hd ht h
  go_enter Tryz.func66, Tryz.ntmps66
  go_wp2_with fail
  refine (kT _).mono ?_
  rintro e w1 ⟨rfl, rfl⟩
  clear kT
  go_wp2_with fail
  refine kD.mono ?_
  rintro e w1 ⟨rfl, d, rfl⟩
  go_wp2
  go_ret
  exact ⟨rfl, below_dN _⟩

set_option maxHeartbeats 1000000 in
set_option maxRecDepth 100000 in
theorem rstep_waits {fv : Value} {w : World} {g : Nat} {cs : Sl × Sl × Sl} {rows : List (List I3)} {m : V4} (h : Rp.MachAt fv w g cs rows m) (hp : progOk rows = true) (hs : shapeOk m = true) {k : Nat} (hk : k < 3) (hd : doneM rows m k = false) (hw : waitM rows m k = true) :
    Calls Tryz.prog 66 #[.pointer (some ⟨g, 0, none⟩), .int .i64 k] w fun e w' => e = .returned (.iface 110 (.int .i64 11)) ∧ Below w.heap.size w w' := by
  have kT := isThread_is k
  have ht : inB (k : Int) 0 2 = true := inB_true.2 (by omega)
  have kD := Rp.doneT_is h hk
  have kW := fun W (hM : Rp.MachAt fv W g cs rows m) => Rp.waits_is hM hp hs hk
  rw [ht] at kT
  rw [hd] at kD
  rw [hw] at kW
  have hk3 : (k : Int) < 3 := by omega
  clear hd ht hw hp hs
  go_enter Tryz.func66, Tryz.ntmps66
  go_wp2_with fail
  refine (kT _).mono ?_
  rintro e w1 ⟨rfl, rfl⟩
  clear kT
  go_wp2_with fail
  refine kD.mono ?_
  rintro e w1 ⟨rfl, d, rfl⟩
  clear kD
  go_wp2_with fail
  refine (kW _ (h.below (below_dN _))).mono ?_
  rintro e w1 ⟨rfl, hb⟩
  have bz : Below w.heap.size w w1 := bel_trans (below_dN _) hb
  clear hb kW h
  go_wp2
  go_ret
  exact ⟨rfl, bz⟩

theorem bug_of_halt (v : Value) (w : World) : (Instr.typeAssert (.iface 110 v) 114 95 true).run Tryz.prog w = .ok (.tuple #[.agg #[.int .i64 0, .int .i64 0, .int .i64 0], .bool false]) w := by kernel_rfl
theorem bug_of_bug (v : Value) (w : World) : (Instr.typeAssert (.iface 95 v) 114 95 true).run Tryz.prog w = .ok (.tuple #[v, .bool true]) w := by kernel_rfl
theorem halt_of_halt (v : Value) (w : World) : (Instr.typeAssert (.iface 110 v) 20 110 false).run Tryz.prog w = .ok v w := by kernel_rfl

set_option maxHeartbeats 1000000 in
set_option maxRecDepth 100000 in
theorem keep_halt (g : Nat) (c : Int) (w : World) :
    Calls Tryz.prog 65 #[.pointer (some ⟨g, 0, none⟩), .iface 110 (.int .i64 c)] w fun e w' => e = .panicked [{ v := .iface 110 (.int .i64 c), recovered := false }] ∧ Below w.heap.size w w' := by
  have hA := bug_of_halt
  go_enter Tryz.func65, Tryz.ntmps65
  go_wp2
  exact ⟨rfl, rfl, by go_grown⟩

set_option maxHeartbeats 1000000 in
set_option maxRecDepth 100000 in
theorem keep_ok (g : Nat) (k pc : Int) (w : World) :
    Calls Tryz.prog 65 #[.pointer (some ⟨g, 0, none⟩), .iface 95 (.agg #[.int .i64 0, .int .i64 k, .int .i64 pc])] w fun e w' => e = .returned (.tuple #[]) ∧ Below w.heap.size w w' := by
  have hA := bug_of_bug
  go_enter Tryz.func65, Tryz.ntmps65
  go_wp2
  go_end0
  exact ⟨rfl, by go_grown⟩
end Go.Proofs.YtmhngodbnoonhaaGreatDoor
