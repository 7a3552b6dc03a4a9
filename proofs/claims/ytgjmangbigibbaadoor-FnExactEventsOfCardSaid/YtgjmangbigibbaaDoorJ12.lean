/-
  FnExactEventsOf, part 12 of 50 (RyI, Bug0).
-/
import Derived.Test.YtgjmangbigibbaaDoorJ10
import Derived.Test.YtgjmangbigibbaaDoorJ11
import Derived.Test.YtgjmangbigibbaaDoorJ01
import Derived.Test.YtgjmangbigibbaaDoorJ03

/-
  A replay in memory: its machine's cells, and behind them what it found.
-/
namespace Go.Proofs.YtgjmangbigibbaaDoor
namespace Rp
open Go.RowKit
set_option linter.unusedVariables false
set_option linter.unusedSimpArgs false
variable {fv : Value}

/-- A replay's cells. -/
def machR (fv c0 c1 c2 : Value) (m : V4) : List Value :=
  [c0, .int .i64 (m.1.getD 0 0), .int .i64 (m.2.2.2.getD 0 0), .int .i64 (m.2.2.2.getD 1 0),
   c1, .int .i64 (m.1.getD 1 0), .int .i64 (m.2.2.2.getD 2 0), .int .i64 (m.2.2.2.getD 3 0),
   c2, .int .i64 (m.1.getD 2 0), .int .i64 (m.2.2.2.getD 4 0), .int .i64 (m.2.2.2.getD 5 0),
   .int .i64 (m.2.1.getD 0 0), .int .i64 (m.2.1.getD 1 0), .int .i64 (m.2.1.getD 2 0), .int .i64 (m.2.1.getD 3 0),
   .int .i64 (m.2.2.1.getD 0 0), .int .i64 (m.2.2.1.getD 1 0), fv]
theorem machR_found (fv c0 c1 c2 : Value) (m : V4) : (machR fv c0 c1 c2 m)[18]? = some fv := rfl
theorem machR_set (fv fv' c0 c1 c2 : Value) (m : V4) : (machR fv c0 c1 c2 m).set 18 fv' = machR fv' c0 c1 c2 m := rfl
section
variable (c0 c1 c2 : Value) (m : V4)
theorem mc_code {k : Nat} (hk : k < 3) : (machR fv c0 c1 c2 m)[k * 4]? = some (codeV c0 c1 c2 k) := by
  match k, hk with
  | 0, _ => rfl
  | 1, _ => rfl
  | 2, _ => rfl
theorem mc_pc {k : Nat} (hk : k < 3) : (machR fv c0 c1 c2 m)[k * 4 + 1]? = some (.int .i64 (m.1.getD k 0)) := by
  match k, hk with
  | 0, _ => rfl
  | 1, _ => rfl
  | 2, _ => rfl
theorem mc_reg {k a : Nat} (hk : k < 3) (ha : a < 2) : (machR fv c0 c1 c2 m)[k * 4 + 2 + a]? = some (.int .i64 (m.2.2.2.getD (k * 2 + a) 0)) := by
  match k, hk, a, ha with
  | 0, _, 0, _ => rfl
  | 1, _, 0, _ => rfl
  | 2, _, 0, _ => rfl
  | 0, _, 1, _ => rfl
  | 1, _, 1, _ => rfl
  | 2, _, 1, _ => rfl
theorem mc_var {a : Nat} (ha : a < 4) : (machR fv c0 c1 c2 m)[12 + a]? = some (.int .i64 (m.2.1.getD a 0)) := by
  match a, ha with
  | 0, _ => rfl
  | 1, _ => rfl
  | 2, _ => rfl
  | 3, _ => rfl
theorem mc_held {a : Nat} (ha : a < 2) : (machR fv c0 c1 c2 m)[16 + a]? = some (.int .i64 (m.2.2.1.getD a 0)) := by
  match a, ha with
  | 0, _ => rfl
  | 1, _ => rfl
end
section
variable (c0 c1 c2 : Value) (m : V4) (h : LenOk m)
include h
theorem mt_pc {k : Nat} (hk : k < 3) (v : Int) : (machR fv c0 c1 c2 m).set (k * 4 + 1) (.int .i64 v) = machR fv c0 c1 c2 (m.1.set k v, m.2) := by
  obtain ⟨p0, p1, p2, v0, v1, v2, v3, h0, h1, x0, y0, x1, y1, x2, y2, rfl⟩ := h.lists
  match k, hk with
  | 0, _ => rfl
  | 1, _ => rfl
  | 2, _ => rfl
theorem mt_reg {k a : Nat} (hk : k < 3) (ha : a < 2) (v : Int) : (machR fv c0 c1 c2 m).set (k * 4 + 2 + a) (.int .i64 v) = machR fv c0 c1 c2 (m.1, m.2.1, m.2.2.1, m.2.2.2.set (k * 2 + a) v) := by
  obtain ⟨p0, p1, p2, v0, v1, v2, v3, h0, h1, x0, y0, x1, y1, x2, y2, rfl⟩ := h.lists
  match k, hk, a, ha with
  | 0, _, 0, _ => rfl
  | 1, _, 0, _ => rfl
  | 2, _, 0, _ => rfl
  | 0, _, 1, _ => rfl
  | 1, _, 1, _ => rfl
  | 2, _, 1, _ => rfl
theorem mt_var {a : Nat} (ha : a < 4) (v : Int) : (machR fv c0 c1 c2 m).set (12 + a) (.int .i64 v) = machR fv c0 c1 c2 (m.1, m.2.1.set a v, m.2.2.1, m.2.2.2) := by
  obtain ⟨p0, p1, p2, v0, v1, v2, v3, h0, h1, x0, y0, x1, y1, x2, y2, rfl⟩ := h.lists
  match a, ha with
  | 0, _ => rfl
  | 1, _ => rfl
  | 2, _ => rfl
  | 3, _ => rfl
theorem mt_held {a : Nat} (ha : a < 2) (v : Int) : (machR fv c0 c1 c2 m).set (16 + a) (.int .i64 v) = machR fv c0 c1 c2 (m.1, m.2.1, m.2.2.1.set a v, m.2.2.2) := by
  obtain ⟨p0, p1, p2, v0, v1, v2, v3, h0, h1, x0, y0, x1, y1, x2, y2, rfl⟩ := h.lists
  match a, ha with
  | 0, _ => rfl
  | 1, _ => rfl
end
/-- A machine in memory: its block whole, and its threads' codes. -/
def MachAt (fv : Value) (w : World) (g : Nat) (cs : Sl × Sl × Sl) (rows : List (List I3)) (m : V4) : Prop :=
  Blk w g 88 (machR fv cs.1.val cs.2.1.val cs.2.2.val m) ∧ ∀ k, k < 3 → Instrs w (slK cs k).1 (slK cs k).2.1 (slK cs k).2.2 (codeM rows k)
theorem MachAt.below {w w' : World} {g : Nat} {cs : Sl × Sl × Sl} {rows : List (List I3)} {m : V4} (h : MachAt fv w g cs rows m) (hb : Below w.heap.size w w') : MachAt fv w' g cs rows m := ⟨h.1.below hb, fun k hk => (h.2 k hk).below hb⟩
theorem MachAt.code {w : World} {g : Nat} {cs : Sl × Sl × Sl} {rows : List (List I3)} {m : V4} (h : MachAt fv w g cs rows m) {k : Nat} (hk : k < 3) : w.cell? ⟨g, k * 4, none⟩ = some (.slice (slK cs k).1 (slK cs k).2.1 (slK cs k).2.2) := by
  rw [h.1.cell, mc_code _ _ _ _ hk, codeV_sl cs hk]; rfl
theorem MachAt.pc {w : World} {g : Nat} {cs : Sl × Sl × Sl} {rows : List (List I3)} {m : V4} (h : MachAt fv w g cs rows m) {k : Nat} (hk : k < 3) : w.cell? ⟨g, k * 4 + 1, none⟩ = some (.int .i64 (m.1.getD k 0)) := by
  rw [h.1.cell, mc_pc _ _ _ _ hk]
theorem MachAt.reg {w : World} {g : Nat} {cs : Sl × Sl × Sl} {rows : List (List I3)} {m : V4} (h : MachAt fv w g cs rows m) {k a : Nat} (hk : k < 3) (ha : a < 2) : w.cell? ⟨g, k * 4 + 2 + a, none⟩ = some (.int .i64 (m.2.2.2.getD (k * 2 + a) 0)) := by
  rw [h.1.cell, mc_reg _ _ _ _ hk ha]
theorem MachAt.var {w : World} {g : Nat} {cs : Sl × Sl × Sl} {rows : List (List I3)} {m : V4} (h : MachAt fv w g cs rows m) {a : Nat} (ha : a < 4) : w.cell? ⟨g, 12 + a, none⟩ = some (.int .i64 (m.2.1.getD a 0)) := by
  rw [h.1.cell, mc_var _ _ _ _ ha]
theorem MachAt.held {w : World} {g : Nat} {cs : Sl × Sl × Sl} {rows : List (List I3)} {m : V4} (h : MachAt fv w g cs rows m) {a : Nat} (ha : a < 2) : w.cell? ⟨g, 16 + a, none⟩ = some (.int .i64 (m.2.2.1.getD a 0)) := by
  rw [h.1.cell, mc_held _ _ _ _ ha]
theorem doneT_is {w : World} {g : Nat} {cs : Sl × Sl × Sl} {rows : List (List I3)} {m : V4} (h : MachAt fv w g cs rows m) {k : Nat} (hk : k < 3) :
    Calls Tryd.prog 57 #[.pointer (some ⟨g, k * 4, none⟩)] w fun e w' => e = .returned (.bool (doneM rows m k)) ∧ ∃ d, w' = w.drewN d := by
  have hl := (h.2 k hk).1
  have := done_is g (k * 4) _ _ _ _ w (h.code hk) (h.pc hk)
  unfold doneM
  rw [hl]
  exact this
theorem waits_is {w : World} {g : Nat} {cs : Sl × Sl × Sl} {rows : List (List I3)} {m : V4} (h : MachAt fv w g cs rows m) (hp : progOk rows = true) (hs : shapeOk m = true) {k : Nat} (hk : k < 3) :
    Calls Tryd.prog 58 #[.pointer (some ⟨g, 0, none⟩), .int .i64 k] w fun e w' => e = .returned (.bool (waitM rows m k)) ∧ Below w.heap.size w w' := by
  unfold waitM
  cases hd : doneM rows m k
  · obtain ⟨p, ep, hlt, hi, hok⟩ := at_ins hp hs hk hd
    have h0 := h.code hk
    have h1 := h.pc hk
    rw [ep] at h1
    obtain ⟨b, off, ea, hpn, c0, c1, c2⟩ := ins_at (h.2 k hk) hlt
    rw [← hi] at c0 c1 c2
    rw [ea] at h0
    by_cases h5 : (insM rows m k).1 = 5
    · obtain ⟨q, hq, hq2⟩ := okI_lock hok h5
      rw [h5] at c0
      rw [hq] at c1
      have hh := h.held hq2
      have e : atLock m (insM rows m k) = !decide (m.2.2.1.getD q 0 = 0) := by
        unfold atLock
        rw [h5, hq]
        simp
      rw [e]
      exact waits_lock g k p b off _ _ _ q _ w hk hpn h0 h1 c0 c1 c2 hh hq2 _ rfl
    · have e : atLock m (insM rows m k) = false := by unfold atLock; simp [h5]
      rw [e]
      exact waits_free g k p b off _ _ _ _ _ w hk hpn h0 h1 c0 c1 c2 h5
  · have h0 := h.code hk
    have h1 := h.pc hk
    unfold doneM at hd
    simp only [decide_eq_true_eq] at hd
    rw [(h.2 k hk).1] at hd
    exact waits_done g k _ _ _ _ w hk h0 h1 hd

end Rp
end Go.Proofs.YtgjmangbigibbaaDoor


/-
  Bugs: which are right; isThread; both sides' BugOK; the laws' toBug, eqBug; a bug that came in.
-/
namespace Go.Proofs.YtgjmangbigibbaaDoor
open Go.RowKit
set_option linter.unusedVariables false

theorem l01In_isB (n a b : Int) (w : World) : Calls Tryd.prog 97 #[.int .i64 n, .int .i64 a, .int .i64 b] w fun e w' => e = .returned (.bool (inB n a b)) ∧ w = w' := by
  cases h : inB n a b
  · exact l01In_no n a b w (inB_false.1 h)
  · exact l01In_yes n a b w (inB_true.1 h)

set_option maxRecDepth 100000 in
/-- What the frame tells of a bug that came in. -/
theorem open_laws_Bug {H : Type} {enc : TypeId × Value → H} {w : World} {base : Nat} {spare : Nat → Bool} {held : Bool} {r : Reach} {b0 : Nat} {v : Value} {d : DataW H} {p : List MemPlace}
    (hv : Value.okWide Tryd.prog w r b0 53 v) (h : DataW.Trod enc Tryd.prog w base spare held 53 v d p) : ∃ y : I3, v = y.val ∧ I3.fits y := by
  obtain ⟨cs, rfl, hsz⟩ := Go.WideShapes.okWide_struct Tryd.underlying53 hv
  obtain ⟨fuel, hf⟩ := h
  obtain ⟨y, hy, hfit⟩ := open_instr_cells Tryd.underlying53 (by kernel_rfl) (by kernel_rfl) Tryd.underlying3 Tryd.underlying3 Tryd.underlying3 hf
  refine ⟨y, ?_, hfit⟩
  unfold I3.val
  simp only [Value.cells] at hy
  cases cs
  simp_all

theorem toBug_same (x : I3) (w : World) : Calls Tryd.prog 29 #[x.val] w fun e w' => e = .returned x.val ∧ Below w.heap.size w w' := by
  obtain ⟨p, q, r⟩ := x
  unfold I3.val
  go_enter Tryd.func29, Tryd.ntmps29
  go_wp2
  go_returns
  exact ⟨rfl, by go_grown⟩

/-- Which bugs are right: its kind, its thread, its place. -/
def okB (x : I3) : Bool :=
  if x.1 = 14 then decide (x.2.1 = 0) && decide (x.2.2 = 0)
  else if x.1 = 12 ∨ x.1 = 13 then inB x.2.1 0 2 && inB x.2.2 0 5
  else false

theorem isThread_is (n : Int) (w : World) : Calls Tryd.prog 104 #[.int .i64 n] w fun e w' => e = .returned (.bool (inB n 0 2)) ∧ w = w' := by
  cases h : inB n 0 2
  · rw [inB_false] at h
    by_cases h1 : 0 ≤ n
    · have h2 : decide (n < 3) = false := by simp; omega
      clear h
      go_enter Tryd.func104, Tryd.ntmps104
      go_wp2
      go_ret
      exact ⟨rfl, rfl⟩
    · clear h
      go_enter Tryd.func104, Tryd.ntmps104
      go_wp2
      go_ret
      exact ⟨rfl, rfl⟩
  · rw [inB_true] at h
    obtain ⟨h1, h3⟩ := h
    have h2 : decide (n < 3) = true := by simp; omega
    clear h3
    go_enter Tryd.func104, Tryd.ntmps104
    go_wp2
    go_ret
    exact ⟨by simp_all, rfl⟩

set_option maxHeartbeats 1000000 in
set_option maxRecDepth 100000 in
theorem implBugOK_12 (a b : Int) (w : World) : Calls Tryd.prog 60 #[.agg #[.int .i64 12, .int .i64 a, .int .i64 b]] w fun e w' => e = .returned (.bool (inB a 0 2 && inB b 0 5)) ∧ Below w.heap.size w w' := by
  have kA := isThread_is a
  generalize inB a 0 2 = p at kA
  cases p
  · go_enter Tryd.func60, Tryd.ntmps60
    go_wp2_with fail
    refine (kA _).mono ?_
    rintro e w1 ⟨rfl, rfl⟩
    go_wp2
    go_ret
    exact ⟨rfl, by go_grown⟩
  · cases h : inB b 0 5
    · rw [inB_false] at h
      by_cases h1 : 0 ≤ b
      · have h2 : decide (b < 6) = false := by simp; omega
        clear h
        go_enter Tryd.func60, Tryd.ntmps60
        go_wp2_with fail
        refine (kA _).mono ?_
        rintro e w1 ⟨rfl, rfl⟩
        go_wp2
        go_ret
        exact ⟨rfl, by go_grown⟩
      · clear h
        go_enter Tryd.func60, Tryd.ntmps60
        go_wp2_with fail
        refine (kA _).mono ?_
        rintro e w1 ⟨rfl, rfl⟩
        go_wp2
        go_ret
        exact ⟨rfl, by go_grown⟩
    · rw [inB_true] at h
      obtain ⟨h1, h3⟩ := h
      have h2 : decide (b < 6) = true := by simp; omega
      clear h3
      go_enter Tryd.func60, Tryd.ntmps60
      go_wp2_with fail
      refine (kA _).mono ?_
      rintro e w1 ⟨rfl, rfl⟩
      go_wp2
      go_ret
      exact ⟨by simp_all, by go_grown⟩

set_option maxHeartbeats 1000000 in
set_option maxRecDepth 100000 in
theorem implBugOK_13 (a b : Int) (w : World) : Calls Tryd.prog 60 #[.agg #[.int .i64 13, .int .i64 a, .int .i64 b]] w fun e w' => e = .returned (.bool (inB a 0 2 && inB b 0 5)) ∧ Below w.heap.size w w' := by
  have kA := isThread_is a
  generalize inB a 0 2 = p at kA
  cases p
  · go_enter Tryd.func60, Tryd.ntmps60
    go_wp2_with fail
    refine (kA _).mono ?_
    rintro e w1 ⟨rfl, rfl⟩
    go_wp2
    go_ret
    exact ⟨rfl, by go_grown⟩
  · cases h : inB b 0 5
    · rw [inB_false] at h
      by_cases h1 : 0 ≤ b
      · have h2 : decide (b < 6) = false := by simp; omega
        clear h
        go_enter Tryd.func60, Tryd.ntmps60
        go_wp2_with fail
        refine (kA _).mono ?_
        rintro e w1 ⟨rfl, rfl⟩
        go_wp2
        go_ret
        exact ⟨rfl, by go_grown⟩
      · clear h
        go_enter Tryd.func60, Tryd.ntmps60
        go_wp2_with fail
        refine (kA _).mono ?_
        rintro e w1 ⟨rfl, rfl⟩
        go_wp2
        go_ret
        exact ⟨rfl, by go_grown⟩
    · rw [inB_true] at h
      obtain ⟨h1, h3⟩ := h
      have h2 : decide (b < 6) = true := by simp; omega
      clear h3
      go_enter Tryd.func60, Tryd.ntmps60
      go_wp2_with fail
      refine (kA _).mono ?_
      rintro e w1 ⟨rfl, rfl⟩
      go_wp2
      go_ret
      exact ⟨by simp_all, by go_grown⟩

set_option maxHeartbeats 1000000 in
set_option maxRecDepth 100000 in
theorem implBugOK_14 (a b : Int) (w : World) : Calls Tryd.prog 60 #[.agg #[.int .i64 14, .int .i64 a, .int .i64 b]] w fun e w' => e = .returned (.bool (decide (a = 0) && decide (b = 0))) ∧ Below w.heap.size w w' := by
  by_cases h : a = 0
  · subst h
    have hb : decide (b = 0) = (b == 0) := rfl
    rw [hb]
    clear hb
    simp only [decide_true, Bool.true_and]
    go_enter Tryd.func60, Tryd.ntmps60
    go_wp2
    go_ret
    exact ⟨rfl, by go_grown⟩
  · go_enter Tryd.func60, Tryd.ntmps60
    go_wp2
    go_ret
    exact ⟨by simp [h], by go_grown⟩

set_option maxHeartbeats 1000000 in
set_option maxRecDepth 100000 in
theorem specBugOK_14 (a b : Int) (w : World) : Calls Tryd.prog 74 #[.agg #[.int .i64 14, .int .i64 a, .int .i64 b]] w fun e w' => e = .returned (.bool (decide (a = 0) && decide (b = 0))) ∧ Below w.heap.size w w' := by
  by_cases h : a = 0
  · subst h
    have hb : decide (b = 0) = (b == 0) := rfl
    rw [hb]
    clear hb
    simp only [decide_true, Bool.true_and]
    go_enter Tryd.func74, Tryd.ntmps74
    go_wp2
    go_ret
    exact ⟨rfl, by go_grown⟩
  · go_enter Tryd.func74, Tryd.ntmps74
    go_wp2
    go_ret
    exact ⟨by simp [h], by go_grown⟩

set_option maxHeartbeats 1000000 in
set_option maxRecDepth 100000 in
theorem implBugOK_0 (c a b : Int) (w : World) (h : c ≠ 12 ∧ c ≠ 13 ∧ c ≠ 14) : Calls Tryd.prog 60 #[.agg #[.int .i64 c, .int .i64 a, .int .i64 b]] w fun e w' => e = .returned (.bool false) ∧ Below w.heap.size w w' := by
  obtain ⟨h1, h2, h3⟩ := h
  go_enter Tryd.func60, Tryd.ntmps60
  go_wp2
  go_ret
  exact ⟨rfl, by go_grown⟩

set_option maxHeartbeats 1000000 in
set_option maxRecDepth 100000 in
theorem specBugOK_0 (c a b : Int) (w : World) (h : c ≠ 12 ∧ c ≠ 13 ∧ c ≠ 14) : Calls Tryd.prog 74 #[.agg #[.int .i64 c, .int .i64 a, .int .i64 b]] w fun e w' => e = .returned (.bool false) ∧ Below w.heap.size w w' := by
  obtain ⟨h1, h2, h3⟩ := h
  go_enter Tryd.func74, Tryd.ntmps74
  go_wp2
  go_ret
  exact ⟨rfl, by go_grown⟩

set_option maxHeartbeats 1000000 in
set_option maxRecDepth 100000 in
theorem specBugOK_12 (a b : Int) (w : World) : Calls Tryd.prog 74 #[.agg #[.int .i64 12, .int .i64 a, .int .i64 b]] w fun e w' => e = .returned (.bool (inB a 0 2 && inB b 0 5)) ∧ Below w.heap.size w w' := by
  have kA := l01In_isB a 0 2
  have kB := l01In_isB b 0 5
  generalize inB a 0 2 = p at kA
  generalize inB b 0 5 = q at kB
  go_enter Tryd.func74, Tryd.ntmps74
  go_wp2_with fail
  refine (kA _).mono ?_
  rintro e w1 ⟨rfl, rfl⟩
  cases p
  · go_wp2_with fail
    go_ret
    exact ⟨rfl, by go_grown⟩
  · go_wp2_with fail
    refine (kB _).mono ?_
    rintro e w1 ⟨rfl, rfl⟩
    go_wp2_with fail
    go_ret
    exact ⟨rfl, by go_grown⟩

set_option maxHeartbeats 1000000 in
set_option maxRecDepth 100000 in
theorem specBugOK_13 (a b : Int) (w : World) : Calls Tryd.prog 74 #[.agg #[.int .i64 13, .int .i64 a, .int .i64 b]] w fun e w' => e = .returned (.bool (inB a 0 2 && inB b 0 5)) ∧ Below w.heap.size w w' := by
  have kA := l01In_isB a 0 2
  have kB := l01In_isB b 0 5
  generalize inB a 0 2 = p at kA
  generalize inB b 0 5 = q at kB
  go_enter Tryd.func74, Tryd.ntmps74
  go_wp2_with fail
  refine (kA _).mono ?_
  rintro e w1 ⟨rfl, rfl⟩
  cases p
  · go_wp2_with fail
    go_ret
    exact ⟨rfl, by go_grown⟩
  · go_wp2_with fail
    refine (kB _).mono ?_
    rintro e w1 ⟨rfl, rfl⟩
    go_wp2_with fail
    go_ret
    exact ⟨rfl, by go_grown⟩

theorem implBugOK_is (x : I3) (w : World) : Calls Tryd.prog 60 #[x.val] w fun e w' => e = .returned (.bool (okB x)) ∧ Below w.heap.size w w' := by
  obtain ⟨c, a, b⟩ := x
  unfold I3.val okB
  by_cases h4 : c = 14
  · subst h4
    simpa using implBugOK_14 a b w
  by_cases h2 : c = 12
  · subst h2
    simpa using implBugOK_12 a b w
  by_cases h3 : c = 13
  · subst h3
    simpa using implBugOK_13 a b w
  · simpa [h4, h2, h3] using implBugOK_0 c a b w ⟨h2, h3, h4⟩

theorem specBugOK_is (x : I3) (w : World) : Calls Tryd.prog 74 #[x.val] w fun e w' => e = .returned (.bool (okB x)) ∧ Below w.heap.size w w' := by
  obtain ⟨c, a, b⟩ := x
  unfold I3.val okB
  by_cases h4 : c = 14
  · subst h4
    simpa using specBugOK_14 a b w
  by_cases h2 : c = 12
  · subst h2
    simpa using specBugOK_12 a b w
  by_cases h3 : c = 13
  · subst h3
    simpa using specBugOK_13 a b w
  · simpa [h4, h2, h3] using specBugOK_0 c a b w ⟨h2, h3, h4⟩

end Go.Proofs.YtgjmangbigibbaaDoor
