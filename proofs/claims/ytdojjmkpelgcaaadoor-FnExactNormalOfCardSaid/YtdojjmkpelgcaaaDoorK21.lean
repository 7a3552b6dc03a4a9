/-
  Joined: RunPl, RpC, Tab, JoinC.
-/
import Derived.Test.YtdojjmkpelgcaaaDoorProg
import Derived.Deep.RegionHeld3
import Derived.KernelRfl
import Derived.Tactics
import Derived.WalkKit
import Derived.WalkSpells
import Derived.WalkLawsBesides
import Derived.RegionTactic
import Derived.BigQuiet
import Derived.Deep.QuietTactic
import Derived.Deep.Slices
import Derived.Deep.Strs
import Derived.Deep.Fields
import Derived.ChangeSame
import Derived.Handy
import Derived.OwnWalk
import Derived.ChangeSlices
import Derived.Lib.SmallJoins
import Derived.Shelf.Abstract
import Derived.Laws.BytesArg
import Derived.Deep.RegionLaw
import Derived.Laws.OwnMore
import Derived.Laws.CopyOwn
import Derived.Laws.Tables
import Derived.BigRegion
import Derived.Maps.AppendAt
import Derived.Stop.Asserts
import Derived.Recover
import Derived.IntWalk
import Derived.Test.YtdojjmkpelgcaaaDoorK01
import Derived.Test.YtdojjmkpelgcaaaDoorK02
import Derived.Test.YtdojjmkpelgcaaaDoorK08
import Derived.Test.YtdojjmkpelgcaaaDoorK09
import Derived.Test.YtdojjmkpelgcaaaDoorK10
import Derived.Test.YtdojjmkpelgcaaaDoorK11
import Derived.Test.YtdojjmkpelgcaaaDoorK12
import Derived.Test.YtdojjmkpelgcaaaDoorK16
import Derived.Test.YtdojjmkpelgcaaaDoorK20

/-
  Runs in plain words: what the program keeps and merges at the end is what the specification merges step by step.
-/
namespace Go.Proofs.YtdojjmkpelgcaaaDoor
open Go.RowKit
set_option linter.unusedVariables false

def haltM (rows : List (List I3)) (m : V4) (k : Int) : Int :=
  if 0 ≤ k ∧ k ≤ 2 then (if doneM rows m k.toNat then 10 else if canM rows m k.toNat then 0 else 11) else 4
def goM (rows : List (List I3)) (m : V4) (k : Int) : V4 × Int := stepM m (insM rows m k.toNat) k.toNat
def ownM (rows : List (List I3)) (m : V4) (k : Int) : List I3 := if (goM rows m k).2 = 0 then [] else [((goM rows m k).2, k, m.1.getD k.toNat 0)]
def deadM (rows : List (List I3)) (m : V4) : List I3 := if stuckM rows m then [(14, 0, 0)] else []
def foundM (rows : List (List I3)) (m : V4) (k : Int) : List I3 := if stuckM rows (goM rows m k).1 then putB (ownM rows m k) (14, 0, 0) else ownM rows m k

def runI (rows : List (List I3)) : V4 → List I3 → List Int → V4 × List I3 × Int
  | m, fs, [] => (m, fs, 0)
  | m, fs, k :: ks => if haltM rows m k = 0 then runI rows (goM rows m k).1 (fs ++ ownM rows m k) ks else (m, fs, haltM rows m k)
def runS (rows : List (List I3)) : V4 → List I3 → List Int → V4 × List I3 × Int
  | m, out, [] => (m, out, 0)
  | m, out, k :: ks => if haltM rows m k = 0 then runS rows (goM rows m k).1 (mergeB out (foundM rows m k)) ks else (m, out, haltM rows m k)

theorem halt_can {rows : List (List I3)} {m : V4} {k : Int} (h : haltM rows m k = 0) : 0 ≤ k ∧ k ≤ 2 ∧ doneM rows m k.toNat = false ∧ canM rows m k.toNat = true := by
  unfold haltM at h
  split at h
  · rename_i hk
    cases hd : doneM rows m k.toNat
    · cases hc : canM rows m k.toNat
      · rw [hd, hc] at h; simp at h
      · exact ⟨hk.1, hk.2, rfl, rfl⟩
    · rw [hd] at h; simp at h
  · cases h
theorem can_not_stuck {rows : List (List I3)} {m : V4} {k : Nat} (hk : k < 3) (h : canM rows m k = true) : stuckM rows m = false := by
  have hm : (k : Int) ∈ enabM rows m 3 := (mem_enab 3).2 ⟨hk, h⟩
  unfold stuckM
  have hne : ¬ (enabM rows m 3 = []) := fun e => by rw [e] at hm; simp at hm
  simp [hne]
theorem mem_found {rows : List (List I3)} {m : V4} {k : Int} {x : I3} : x ∈ foundM rows m k ↔ x ∈ ownM rows m k ∨ x ∈ deadM rows (goM rows m k).1 := by
  unfold foundM deadM
  cases stuckM rows (goM rows m k).1
  · simp
  · simp only [if_true, mem_putB, List.mem_singleton]
theorem run_same {rows : List (List I3)} : ∀ (ks : List Int) (m : V4) (fs out : List I3), out = mergeB fs (deadM rows m) →
    (runS rows m out ks).1 = (runI rows m fs ks).1 ∧ (runS rows m out ks).2.2 = (runI rows m fs ks).2.2 ∧ (runS rows m out ks).2.1 = mergeB (runI rows m fs ks).2.1 (deadM rows (runI rows m fs ks).1)
  | [], m, fs, out, h => ⟨rfl, rfl, h⟩
  | k :: ks, m, fs, out, h => by
    by_cases hz : haltM rows m k = 0
    · obtain ⟨h0, h2, _, hc⟩ := halt_can hz
      have hst := can_not_stuck (rows := rows) (m := m) (k := k.toNat) (by omega) hc
      have hd : deadM rows m = [] := by unfold deadM; rw [hst]; rfl
      have e1 : runS rows m out (k :: ks) = runS rows (goM rows m k).1 (mergeB out (foundM rows m k)) ks := by
        show (if haltM rows m k = 0 then _ else _) = _
        rw [if_pos hz]
      have e2 : runI rows m fs (k :: ks) = runI rows (goM rows m k).1 (fs ++ ownM rows m k) ks := by
        show (if haltM rows m k = 0 then _ else _) = _
        rw [if_pos hz]
      rw [e1, e2]
      refine run_same ks _ _ _ ((mergeB_rises _ _).same (mergeB_rises _ _) fun x => ?_)
      rw [mem_mergeB, mem_mergeB, h, mem_mergeB, hd, mem_found, List.mem_append]
      simp only [List.not_mem_nil, or_false, or_assoc]
    · have e1 : runS rows m out (k :: ks) = (m, out, haltM rows m k) := by
        show (if haltM rows m k = 0 then _ else _) = _
        rw [if_neg hz]
      have e2 : runI rows m fs (k :: ks) = (m, fs, haltM rows m k) := by
        show (if haltM rows m k = 0 then _ else _) = _
        rw [if_neg hz]
      rw [e1, e2]
      exact ⟨rfl, rfl, h⟩
end Go.Proofs.YtdojjmkpelgcaaaDoor


/-
  A replay's run: step by step, up to what halts it; a halt is a panic, which is recovered.
-/
namespace Go.Proofs.YtdojjmkpelgcaaaDoor
open Go.RowKit
set_option linter.unusedVariables false
set_option linter.unusedSimpArgs false

set_option maxRecDepth 100000 in
theorem catch_halt (p : Addr) (x : Value) (c : Int) (older : List PanicEntry) (w : World) (hc : w.cell? p = some x) (hz : w.frozen? p = false) :
    CallsD Tryd.prog 118 #[.pointer (some p)] (.panicking ({ v := .iface 174 (.int .i64 c), recovered := false } :: older)) w fun e u' w' =>
      e = .returned (.tuple #[]) ∧ u' = .panicking ({ v := .iface 174 (.int .i64 c), recovered := true } :: older) ∧ w' = w.setCell p (.int .i64 c) := by
  have hA := halt_of_halt
  refine callsD_of_wpS Tryd.func118 rfl fun c₀ cs hu => ?_
  apply wpS_seq
  apply wpS_region
  simp [wpOpsS, go_sem, recoverD, hu, Tryd.ntmps118, Exit.thenS]
  refine wpS_of_wp ?_
  show Code.wp Tryd.prog _ _ { tmps := #[.pointer (some p), .iface 174 (.int .i64 c), .iface 174 (.int .i64 c), undef, undef, undef, undef, undef], defers := [] } w
  go_wp2
  exact ⟨rfl, _, rfl, _, results_none rfl _ _ _, rfl, rfl, rfl⟩

set_option maxRecDepth 100000 in
theorem catch_idle (p : Addr) (w : World) :
    CallsD Tryd.prog 118 #[.pointer (some p)] .returning w fun e u' w' => e = .returned (.tuple #[]) ∧ u' = .returning ∧ w' = w := by
  refine callsD_of_wpS Tryd.func118 rfl fun c₀ cs hu => ?_
  apply wpS_seq
  apply wpS_region
  simp [wpOpsS, go_sem, recoverD, hu, Tryd.ntmps118, Exit.thenS]
  refine wpS_of_wp ?_
  show Code.wp Tryd.prog _ _ { tmps := #[.pointer (some p), .nilIface, .nilIface, undef, undef, undef, undef, undef], defers := [] } w
  go_wp2
  exact ⟨rfl, .returning, by cases c₀; simp_all, _, results_none rfl _ _ _, rfl, rfl, rfl⟩
end Go.Proofs.YtdojjmkpelgcaaaDoor


/-
  Rows told by a rule: the cell at each place; a row that was made; a square table of yes and no.
-/
namespace Go.Proofs.YtdojjmkpelgcaaaDoor
open Go.RowKit
set_option linter.unusedVariables false

def tab (n : Nat) (f : Nat → Value) : List Value := (List.range n).map f
theorem tab_get {n i : Nat} (f : Nat → Value) (h : i < n) : (tab n f)[i]? = some (f i) := by simp [tab, h]
theorem tab_congr {n : Nat} {f g : Nat → Value} (h : ∀ i, i < n → f i = g i) : tab n f = tab n g := by
  unfold tab
  refine List.map_congr_left (fun i hi => h i (by simpa using hi))
theorem tab_set (n i : Nat) (f : Nat → Value) (v : Value) : (tab n f).set i v = tab n (fun j => if j = i then v else f j) := by
  refine List.ext_getElem (by simp [tab]) (fun j h1 h2 => ?_)
  simp only [tab, List.length_set, List.length_map, List.length_range] at h1
  rw [List.getElem_set]
  simp only [tab, List.getElem_map, List.getElem_range]
  by_cases e : j = i
  · subst e; simp
  · simp [e, Ne.symm e]
theorem made_tab (z : Value) (n : Nat) : (madeCells #[z] n).toList = tab n fun _ => z := by
  unfold madeCells tab
  refine List.ext_getElem (by simp) (fun j h1 h2 => ?_)
  simp [Nat.mod_one]
theorem made_tab3 (z : Value) (n : Nat) : (madeCells #[z, z, z] n).toList = tab n fun _ => z := by
  unfold madeCells tab
  refine List.ext_getElem (by simp) (fun j h1 h2 => ?_)
  have h3 : j % 3 < 3 := Nat.mod_lt _ (by omega)
  simp
  match j % 3, h3 with
  | 0, _ => rfl
  | 1, _ => rfl
  | 2, _ => rfl
theorem blk_of_full {w : World} {B e s g n : Nat} {xs : List Value} (h : w.ownsRow B e s (.slice (some ⟨g, 0, none⟩) n n) n xs) : Blk w g e xs ∧ B ≤ g := by
  obtain ⟨hl, h | ⟨g', cap, cur, hv, hB, hg, h1, h2, h3, h4⟩⟩ := h
  · cases h.1
  · cases hv
    refine ⟨?_, hB⟩
    unfold Blk
    rw [hg, ← h4, List.take_of_length_le (by simp [h3])]
def tab2 (n : Nat) (F : Nat → Nat → Bool) : List Value := tab (n * n) fun j => .bool (F (j / n) (j % n))
theorem at_two {n i k : Nat} (hi : i < n) (hk : k < n) : i * n + k < n * n ∧ (i * n + k) / n = i ∧ (i * n + k) % n = k := by
  refine ⟨?_, ?_, ?_⟩
  · have : (i + 1) * n ≤ n * n := Nat.mul_le_mul_right n (by omega)
    rw [Nat.add_mul] at this
    omega
  · rw [Nat.mul_comm, Nat.mul_add_div (by omega), Nat.div_eq_of_lt hk, Nat.add_zero]
  · rw [Nat.mul_comm, Nat.mul_add_mod, Nat.mod_eq_of_lt hk]
theorem tab2_get {n i k : Nat} (F : Nat → Nat → Bool) (hi : i < n) (hk : k < n) : (tab2 n F)[i * n + k]? = some (.bool (F i k)) := by
  obtain ⟨h1, h2, h3⟩ := at_two hi hk
  unfold tab2
  rw [tab_get _ h1, h2, h3]
theorem tab2_congr {n : Nat} {F G : Nat → Nat → Bool} (h : ∀ i k, i < n → k < n → F i k = G i k) : tab2 n F = tab2 n G := by
  refine tab_congr (fun j hj => ?_)
  have hn : 0 < n := by
    rcases Nat.eq_zero_or_pos n with e | e
    · subst e; simp at hj
    · exact e
  rw [h _ _ ((Nat.div_lt_iff_lt_mul hn).2 hj) (Nat.mod_lt _ hn)]
theorem tab2_set {n i k : Nat} (F : Nat → Nat → Bool) (b : Bool) (hi : i < n) (hk : k < n) : (tab2 n F).set (i * n + k) (.bool b) = tab2 n (fun h c => if h = i ∧ c = k then b else F h c) := by
  obtain ⟨h1, h2, h3⟩ := at_two hi hk
  unfold tab2
  rw [tab_set]
  refine tab_congr (fun j hj => ?_)
  by_cases e : j = i * n + k
  · subst e
    rw [if_pos rfl, h2, h3]
    simp only [and_self, if_true]
  · rw [if_neg e]
    have e9 : ¬ (j / n = i ∧ j % n = k) := by
     rintro ⟨e1, e2⟩
     apply e
     have := Nat.div_add_mod j n
     rw [e1, e2, Nat.mul_comm] at this
     exact this.symm
    simp only [if_neg e9]
theorem ix_two {n i k N : Nat} (hN : N = n * n) (hb : N ≤ 16777216) (hi : i < n) (hk : k < n) : ∃ M P : Nat, wrap64 ((i : Int) * (n : Int)) = (M : Int) ∧ wrap64 ((M : Int) + (k : Int)) = (P : Int) ∧ (P : Int) < (N : Int) ∧ (0 : Int) ≤ (P : Int) ∧ P = i * n + k := by
  have h1 := (at_two hi hk).1
  rw [← hN] at h1
  refine ⟨i * n, i * n + k, ?_, ?_, Int.ofNat_lt.2 h1, Int.natCast_nonneg _, rfl⟩
  · rw [← Int.natCast_mul]
    generalize i * n = M at h1
    exact IntWalk.wrap64_in _ ⟨by omega, by omega⟩
  · rw [← Int.natCast_add]
    generalize i * n + k = P at h1
    exact IntWalk.wrap64_in _ ⟨by omega, by omega⟩
theorem wrap_sq {n N : Nat} (hN : N = n * n) (hb : N ≤ 16777216) : wrap64 ((n : Int) * (n : Int)) = (N : Int) := by
  rw [← Int.natCast_mul, ← hN]
  exact IntWalk.wrap64_in _ ⟨by omega, by omega⟩
end Go.Proofs.YtdojjmkpelgcaaaDoor


/-
  The program's clocks: join, within.
-/
namespace Go.Proofs.YtdojjmkpelgcaaaDoor
open Go.RowKit
set_option linter.unusedVariables false
set_option linter.unusedSimpArgs false

theorem idxC_0 (x y z : Value) (W : World) : (Instr.index 140 (.agg #[x, y, z]) (.int .i64 0)).run Tryd.prog W = .ok x W := by kernel_rfl
theorem idxC_1 (x y z : Value) (W : World) : (Instr.index 140 (.agg #[x, y, z]) (.int .i64 1)).run Tryd.prog W = .ok y W := by kernel_rfl
theorem idxC_2 (x y z : Value) (W : World) : (Instr.index 140 (.agg #[x, y, z]) (.int .i64 2)).run Tryd.prog W = .ok z W := by kernel_rfl
def inC (a b : Nat → Nat) : Bool := decide (a 0 ≤ b 0) && (decide (a 1 ≤ b 1) && decide (a 2 ≤ b 2))
def ck (f : Nat → Nat) : Value := .agg #[.int .i64 (f 0), .int .i64 (f 1), .int .i64 (f 2)]
set_option maxHeartbeats 1000000 in
set_option maxRecDepth 100000 in
theorem within_is (a b : Nat → Nat) (w : World) :
    Calls Tryd.prog 123 #[ck a, ck b] w fun e w' => e = .returned (.bool (inC a b)) ∧ Below w.heap.size w w' := by
  unfold ck inC
  generalize a 0 = a0
  generalize a 1 = a1
  generalize a 2 = a2
  generalize b 0 = b0
  generalize b 1 = b1
  generalize b 2 = b2
  have q0 := idxC_0 (.int .i64 a0) (.int .i64 a1) (.int .i64 a2)
  have q1 := idxC_1 (.int .i64 a0) (.int .i64 a1) (.int .i64 a2)
  have q2 := idxC_2 (.int .i64 a0) (.int .i64 a1) (.int .i64 a2)
  by_cases h0 : a0 ≤ b0
  · by_cases h1 : a1 ≤ b1
    · by_cases h2 : a2 ≤ b2
      · have g0 : ¬ (a0 : Int) > (b0 : Int) := by omega
        have g1 : ¬ (a1 : Int) > (b1 : Int) := by omega
        have g2 : ¬ (a2 : Int) > (b2 : Int) := by omega
        simp only [h0, h1, h2, decide_true, decide_false, Bool.and_self, Bool.and_true, Bool.true_and, Bool.false_and, Bool.and_false]
        clear h0 h1 h2
        go_enter Tryd.func123, Tryd.ntmps123
        go_wp2
        refine wp_loop_rounds 4 ?_
        rw [rounds_succ]
        go_wp2
        rw [rounds_succ]
        go_wp2
        rw [rounds_succ]
        go_wp2
        rw [rounds_succ]
        go_wp2
        go_ret
        exact ⟨rfl, by go_grown⟩
      · have g0 : ¬ (a0 : Int) > (b0 : Int) := by omega
        have g1 : ¬ (a1 : Int) > (b1 : Int) := by omega
        have g2 : (a2 : Int) > (b2 : Int) := by omega
        simp only [h0, h1, h2, decide_true, decide_false, Bool.and_self, Bool.and_true, Bool.true_and, Bool.false_and, Bool.and_false]
        clear h0 h1 h2
        go_enter Tryd.func123, Tryd.ntmps123
        go_wp2
        refine wp_loop_rounds 4 ?_
        rw [rounds_succ]
        go_wp2
        rw [rounds_succ]
        go_wp2
        rw [rounds_succ]
        go_wp2
        go_ret
        exact ⟨rfl, by go_grown⟩
    · have g0 : ¬ (a0 : Int) > (b0 : Int) := by omega
      have g1 : (a1 : Int) > (b1 : Int) := by omega
      simp only [h0, h1, decide_true, decide_false, Bool.and_self, Bool.and_true, Bool.true_and, Bool.false_and, Bool.and_false]
      clear h0 h1
      go_enter Tryd.func123, Tryd.ntmps123
      go_wp2
      refine wp_loop_rounds 4 ?_
      rw [rounds_succ]
      go_wp2
      rw [rounds_succ]
      go_wp2
      go_ret
      exact ⟨rfl, by go_grown⟩
  · have g0 : (a0 : Int) > (b0 : Int) := by omega
    simp only [h0, decide_true, decide_false, Bool.and_self, Bool.and_true, Bool.true_and, Bool.false_and, Bool.and_false]
    clear h0
    go_enter Tryd.func123, Tryd.ntmps123
    go_wp2
    refine wp_loop_rounds 4 ?_
    rw [rounds_succ]
    go_wp2
    go_ret
    exact ⟨rfl, by go_grown⟩

def set3 (cs : List Value) (off : Nat) (x y z : Value) : List Value := ((cs.set off x).set (off + 1) y).set (off + 2) z
set_option maxHeartbeats 2000000 in
set_option maxRecDepth 100000 in
theorem join_is {w : World} {g t off : Nat} {cs : List Value} (hB : Blk w g t cs) (x y : Nat → Nat) (h0 : cs[off]? = some (.int .i64 (x 0))) (h1 : cs[off + 1]? = some (.int .i64 (x 1))) (h2 : cs[off + 2]? = some (.int .i64 (x 2))) :
    Calls Tryd.prog 122 #[.pointer (some ⟨g, off, none⟩), ck y] w fun e w' => e = .returned (.tuple #[]) ∧ Blk w' g t (set3 cs off (.int .i64 (max (x 0) (y 0) : Nat)) (.int .i64 (max (x 1) (y 1) : Nat)) (.int .i64 (max (x 2) (y 2) : Nat))) ∧ w.grownBy w' (some g) := by
  unfold ck set3
  generalize x 0 = x0 at *
  generalize x 1 = x1 at *
  generalize x 2 = x2 at *
  generalize y 0 = y0
  generalize y 1 = y1
  generalize y 2 = y2
  have q0 := idxC_0 (.int .i64 y0) (.int .i64 y1) (.int .i64 y2)
  have q1 := idxC_1 (.int .i64 y0) (.int .i64 y1) (.int .i64 y2)
  have q2 := idxC_2 (.int .i64 y0) (.int .i64 y1) (.int .i64 y2)
  have hal : Below w.heap.size w (w.alloc (.cells #[.int .i64 y0, .int .i64 y1, .int .i64 y2] 140)) := by go_grown
  have pA := hB.below hal
  have ga : w.grownBy (w.alloc (.cells #[.int .i64 y0, .int .i64 y1, .int .i64 y2] 140)) (some g) := grown_new hal
  clear hal hB
  go_enter Tryd.func122, Tryd.ntmps122
  go_wp2
  generalize w.alloc (.cells #[.int .i64 y0, .int .i64 y1, .int .i64 y2] 140) = U0 at *
  refine wp_loop_rounds 4 ?_
  have c0 := pA.cell (off)
  rw [h0] at c0
  have f0 := pA.frozen (off)
  rw [rounds_succ]
  go_wp2_with fail
  go_region
  rw [show (if x0 < y0 then (y0 : Int) else (x0 : Int)) = ((max x0 y0 : Nat) : Int) by split <;> omega]
  have p0 : Blk ((U0.setCell ⟨g, off, none⟩ (.int .i64 (max x0 y0 : Nat))).drew) g t (cs.set (off) (.int .i64 (max x0 y0 : Nat))) := pA.set (off) _
  have g0 : w.grownBy ((U0.setCell ⟨g, off, none⟩ (.int .i64 (max x0 y0 : Nat))).drew) (some g) := grown_tr ga ⟨rfl, rfl, rfl, by simp, fun i _ hr => Below.heap_setCell U0 ⟨g, off, none⟩ _ i (fun e => hr (by rw [e]))⟩
  clear c0 f0 pA ga
  generalize (U0.setCell ⟨g, off, none⟩ (.int .i64 (max x0 y0 : Nat))).drew = U1 at *
  go_wp2_with fail
  have c1 := p0.cell (off + 1)
  rw [List.getElem?_set_ne (by omega), h1] at c1
  have f1 := p0.frozen (off + 1)
  rw [rounds_succ]
  go_wp2_with fail
  go_region
  rw [show (if x1 < y1 then (y1 : Int) else (x1 : Int)) = ((max x1 y1 : Nat) : Int) by split <;> omega]
  have p1 : Blk ((U1.setCell ⟨g, off + 1, none⟩ (.int .i64 (max x1 y1 : Nat))).drew) g t ((cs.set (off) (.int .i64 (max x0 y0 : Nat))).set (off + 1) (.int .i64 (max x1 y1 : Nat))) := p0.set (off + 1) _
  have g1 : w.grownBy ((U1.setCell ⟨g, off + 1, none⟩ (.int .i64 (max x1 y1 : Nat))).drew) (some g) := grown_tr g0 ⟨rfl, rfl, rfl, by simp, fun i _ hr => Below.heap_setCell U1 ⟨g, off + 1, none⟩ _ i (fun e => hr (by rw [e]))⟩
  clear c1 f1 p0 g0
  generalize (U1.setCell ⟨g, off + 1, none⟩ (.int .i64 (max x1 y1 : Nat))).drew = U2 at *
  go_wp2_with fail
  have c2 := p1.cell (off + 2)
  rw [List.getElem?_set_ne (by omega), List.getElem?_set_ne (by omega), h2] at c2
  have f2 := p1.frozen (off + 2)
  rw [rounds_succ]
  go_wp2_with fail
  go_region
  rw [show (if x2 < y2 then (y2 : Int) else (x2 : Int)) = ((max x2 y2 : Nat) : Int) by split <;> omega]
  have p2 : Blk ((U2.setCell ⟨g, off + 2, none⟩ (.int .i64 (max x2 y2 : Nat))).drew) g t (((cs.set (off) (.int .i64 (max x0 y0 : Nat))).set (off + 1) (.int .i64 (max x1 y1 : Nat))).set (off + 2) (.int .i64 (max x2 y2 : Nat))) := p1.set (off + 2) _
  have g2 : w.grownBy ((U2.setCell ⟨g, off + 2, none⟩ (.int .i64 (max x2 y2 : Nat))).drew) (some g) := grown_tr g1 ⟨rfl, rfl, rfl, by simp, fun i _ hr => Below.heap_setCell U2 ⟨g, off + 2, none⟩ _ i (fun e => hr (by rw [e]))⟩
  clear c2 f2 p1 g1
  generalize (U2.setCell ⟨g, off + 2, none⟩ (.int .i64 (max x2 y2 : Nat))).drew = U3 at *
  go_wp2_with fail
  rw [rounds_succ]
  go_wp2
  go_end0
  exact ⟨rfl, p2, g2⟩
end Go.Proofs.YtdojjmkpelgcaaaDoor

