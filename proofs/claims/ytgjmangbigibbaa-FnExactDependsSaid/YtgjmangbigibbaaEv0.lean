
/-
  Events: four numbers; an event that came in; who depends on whom.
-/
import Derived.Test.YtgjmangbigibbaaVm0
import Derived.Test.YtgjmangbigibbaaProg4
namespace Go.Proofs.Ytgjmangbigibbaa
open Go.RowKit Go.ChangeShapes Go.WideShapes Go.Joins
set_option linter.unusedVariables false
set_option linter.unusedSimpArgs false

/-- An event: its thread, its place, its operation, what it touches. -/
abbrev I4 := Int × Int × Int × Int
def I4.fits (x : I4) : Prop := (Lit.int .i64 x.1).wf = true ∧ (Lit.int .i64 x.2.1).wf = true ∧ (Lit.int .i64 x.2.2.1).wf = true ∧ (Lit.int .i64 x.2.2.2).wf = true
def I4.val (x : I4) : Value := .agg #[.int .i64 x.1, .int .i64 x.2.1, .int .i64 x.2.2.1, .int .i64 x.2.2.2]

set_option maxRecDepth 100000 in
/-- An event that came in, opened. -/
theorem open_laws_Event {H : Type} {enc : TypeId × Value → H} {w : World} {base : Nat} {spare : Nat → Bool} {held : Bool} {r : Reach} {b0 : Nat} {v : Value} {d : DataW H} {p : List MemPlace}
    (hv : Value.okWide Try.prog w r b0 23 v) (h : DataW.Trod enc Try.prog w base spare held 23 v d p) : ∃ y : I4, v = y.val ∧ I4.fits y := by
  obtain ⟨cs, rfl, hsz⟩ := okWide_struct Try.underlying23 hv
  have hsz' : cs.size = 4 := hsz.trans (by kernel_rfl)
  obtain ⟨fuel, hf⟩ := h
  obtain ⟨y0, y1, y2, y3, n, _, _, h0, h1, h2, h3⟩ := trod_struct4 Try.underlying23 hf
  obtain ⟨v0, v1, v2, v3, rfl⟩ := array4 hsz'
  have hk : Try.prog.cellsOf 3 = 1 := by kernel_rfl
  simp only [Value.cells, hk] at h0 h1 h2 h3
  obtain ⟨m0, e0, _, f0⟩ := DataW.trod_int Try.underlying3 h0
  obtain ⟨m1, e1, _, f1⟩ := DataW.trod_int Try.underlying3 h1
  obtain ⟨m2, e2, _, f2⟩ := DataW.trod_int Try.underlying3 h2
  obtain ⟨m3, e3, _, f3⟩ := DataW.trod_int Try.underlying3 h3
  simp at e0 e1 e2 e3
  exact ⟨(m0, m1, m2, m3), by rw [e0, e1, e2, e3]; rfl, f0, f1, f2, f3⟩

theorem toEvent_same (x : I4) (w : World) : Calls Try.prog 5 #[x.val] w fun e w' => e = .returned x.val ∧ Below w.heap.size w w' := by
  obtain ⟨p, q, r, s⟩ := x
  unfold I4.val
  go_enter Try.func5, Try.ntmps5
  go_wp2
  go_returns
  exact ⟨rfl, by go_grown⟩

/-- Who depends: of one thread, or of one place, unless both load. -/
def depM (a b : I4) : Bool := decide (a.1 = b.1) || (decide (0 ≤ a.2.2.2) && decide (a.2.2.2 = b.2.2.2) && !(decide (a.2.2.1 = 1) && decide (b.2.2.1 = 1)))

set_option maxHeartbeats 2000000 in
set_option maxRecDepth 100000 in
theorem specDepends_is (a b : I4) (w : World) : Calls Try.prog 4 #[a.val, b.val] w fun e w' => e = .returned (.bool (depM a b)) ∧ Below w.heap.size w w' := by
  obtain ⟨a0, a1, a2, a3⟩ := a
  obtain ⟨b0, b1, b2, b3⟩ := b
  unfold I4.val
  simp only
  by_cases h0 : a0 = b0
  · have hA : depM (a0, a1, a2, a3) (b0, b1, b2, b3) = true := by simp [depM, h0] <;> omega
    have qh0 : (a0 == b0) = true := by simp [h0]
    rw [hA]
    clear hA h0
    go_enter Try.func4, Try.ntmps4
    go_wp2
    go_ret
    exact ⟨rfl, by go_grown⟩
  · by_cases h1 : 0 ≤ a3
    · by_cases h2 : a3 = b3
      · by_cases h3 : a2 = 1
        · by_cases h4 : b2 = 1
          · have hA : depM (a0, a1, a2, a3) (b0, b1, b2, b3) = false := by simp [depM, h0, h1, h2, h3, h4] <;> omega
            have qh0 : (a0 == b0) = false := by simp [h0]
            have qh1 : (decide (a3 ≥ 0)) = true := by simp; omega
            have qh2 : (a3 == b3) = true := by simp [h2]
            have qh3 : (a2 == 1) = true := by simp [h3]
            have rh3 : (a2 != 1) = false := by simp [h3]
            have qh4 : (b2 == 1) = true := by simp [h4]
            have rh4 : (b2 != 1) = false := by simp [h4]
            rw [hA]
            clear hA h0 h2 h3 h4
            go_enter Try.func4, Try.ntmps4
            go_wp2
            go_ret
            exact ⟨rfl, by go_grown⟩
          · have hA : depM (a0, a1, a2, a3) (b0, b1, b2, b3) = true := by simp [depM, h0, h1, h2, h3, h4] <;> omega
            have qh0 : (a0 == b0) = false := by simp [h0]
            have qh1 : (decide (a3 ≥ 0)) = true := by simp; omega
            have qh2 : (a3 == b3) = true := by simp [h2]
            have qh3 : (a2 == 1) = true := by simp [h3]
            have rh3 : (a2 != 1) = false := by simp [h3]
            have qh4 : (b2 == 1) = false := by simp [h4]
            have rh4 : (b2 != 1) = true := by simp [h4]
            rw [hA]
            clear hA h0 h2 h3 h4
            go_enter Try.func4, Try.ntmps4
            go_wp2
            go_ret
            exact ⟨rfl, by go_grown⟩
        · have hA : depM (a0, a1, a2, a3) (b0, b1, b2, b3) = true := by simp [depM, h0, h1, h2, h3] <;> omega
          have qh0 : (a0 == b0) = false := by simp [h0]
          have qh1 : (decide (a3 ≥ 0)) = true := by simp; omega
          have qh2 : (a3 == b3) = true := by simp [h2]
          have qh3 : (a2 == 1) = false := by simp [h3]
          have rh3 : (a2 != 1) = true := by simp [h3]
          rw [hA]
          clear hA h0 h2 h3
          go_enter Try.func4, Try.ntmps4
          go_wp2
          go_ret
          exact ⟨rfl, by go_grown⟩
      · have hA : depM (a0, a1, a2, a3) (b0, b1, b2, b3) = false := by simp [depM, h0, h1, h2] <;> omega
        have qh0 : (a0 == b0) = false := by simp [h0]
        have qh1 : (decide (a3 ≥ 0)) = true := by simp; omega
        have qh2 : (a3 == b3) = false := by simp [h2]
        rw [hA]
        clear hA h0 h2
        go_enter Try.func4, Try.ntmps4
        go_wp2
        go_ret
        exact ⟨rfl, by go_grown⟩
    · have hA : depM (a0, a1, a2, a3) (b0, b1, b2, b3) = false := by simp [depM, h0, h1] <;> omega
      have qh0 : (a0 == b0) = false := by simp [h0]
      have qh1 : (decide (a3 ≥ 0)) = false := by simp; omega
      rw [hA]
      clear hA h0
      go_enter Try.func4, Try.ntmps4
      go_wp2
      go_ret
      exact ⟨rfl, by go_grown⟩

set_option maxHeartbeats 2000000 in
set_option maxRecDepth 100000 in
theorem implDepends_is (a b : I4) (w : World) : Calls Try.prog 6 #[a.val, b.val] w fun e w' => e = .returned (.bool (depM a b)) ∧ Below w.heap.size w w' := by
  obtain ⟨a0, a1, a2, a3⟩ := a
  obtain ⟨b0, b1, b2, b3⟩ := b
  unfold I4.val
  simp only
  by_cases h0 : a0 = b0
  · have hA : depM (a0, a1, a2, a3) (b0, b1, b2, b3) = true := by simp [depM, h0] <;> omega
    have qh0 : (a0 == b0) = true := by simp [h0]
    rw [hA]
    clear hA h0
    go_enter Try.func6, Try.ntmps6
    go_wp2
    go_ret
    exact ⟨rfl, by go_grown⟩
  · by_cases h3 : a2 = 1
    · by_cases h4 : b2 = 1
      · by_cases h1 : 0 ≤ a3
        · by_cases h2 : a3 = b3
          · have hA : depM (a0, a1, a2, a3) (b0, b1, b2, b3) = false := by simp [depM, h0, h3, h4, h1, h2] <;> omega
            have qh0 : (a0 == b0) = false := by simp [h0]
            have qh3 : (a2 == 1) = true := by simp [h3]
            have rh3 : (a2 != 1) = false := by simp [h3]
            have qh4 : (b2 == 1) = true := by simp [h4]
            have rh4 : (b2 != 1) = false := by simp [h4]
            have qh1 : (decide (a3 ≥ 0)) = true := by simp; omega
            have qh2 : (a3 == b3) = true := by simp [h2]
            rw [hA]
            clear hA h0 h3 h4 h2
            go_enter Try.func6, Try.ntmps6
            go_wp2
            go_ret
            exact ⟨rfl, by go_grown⟩
          · have hA : depM (a0, a1, a2, a3) (b0, b1, b2, b3) = false := by simp [depM, h0, h3, h4, h1, h2] <;> omega
            have qh0 : (a0 == b0) = false := by simp [h0]
            have qh3 : (a2 == 1) = true := by simp [h3]
            have rh3 : (a2 != 1) = false := by simp [h3]
            have qh4 : (b2 == 1) = true := by simp [h4]
            have rh4 : (b2 != 1) = false := by simp [h4]
            have qh1 : (decide (a3 ≥ 0)) = true := by simp; omega
            have qh2 : (a3 == b3) = false := by simp [h2]
            rw [hA]
            clear hA h0 h3 h4 h2
            go_enter Try.func6, Try.ntmps6
            go_wp2
            go_ret
            exact ⟨rfl, by go_grown⟩
        · have hA : depM (a0, a1, a2, a3) (b0, b1, b2, b3) = false := by simp [depM, h0, h3, h4, h1] <;> omega
          have qh0 : (a0 == b0) = false := by simp [h0]
          have qh3 : (a2 == 1) = true := by simp [h3]
          have rh3 : (a2 != 1) = false := by simp [h3]
          have qh4 : (b2 == 1) = true := by simp [h4]
          have rh4 : (b2 != 1) = false := by simp [h4]
          have qh1 : (decide (a3 ≥ 0)) = false := by simp; omega
          rw [hA]
          clear hA h0 h3 h4
          go_enter Try.func6, Try.ntmps6
          go_wp2
          go_ret
          exact ⟨rfl, by go_grown⟩
      · by_cases h1 : 0 ≤ a3
        · by_cases h2 : a3 = b3
          · have hA : depM (a0, a1, a2, a3) (b0, b1, b2, b3) = true := by simp [depM, h0, h3, h4, h1, h2] <;> omega
            have qh0 : (a0 == b0) = false := by simp [h0]
            have qh3 : (a2 == 1) = true := by simp [h3]
            have rh3 : (a2 != 1) = false := by simp [h3]
            have qh4 : (b2 == 1) = false := by simp [h4]
            have rh4 : (b2 != 1) = true := by simp [h4]
            have qh1 : (decide (a3 ≥ 0)) = true := by simp; omega
            have qh2 : (a3 == b3) = true := by simp [h2]
            rw [hA]
            clear hA h0 h3 h4 h2
            go_enter Try.func6, Try.ntmps6
            go_wp2
            go_ret
            exact ⟨rfl, by go_grown⟩
          · have hA : depM (a0, a1, a2, a3) (b0, b1, b2, b3) = false := by simp [depM, h0, h3, h4, h1, h2] <;> omega
            have qh0 : (a0 == b0) = false := by simp [h0]
            have qh3 : (a2 == 1) = true := by simp [h3]
            have rh3 : (a2 != 1) = false := by simp [h3]
            have qh4 : (b2 == 1) = false := by simp [h4]
            have rh4 : (b2 != 1) = true := by simp [h4]
            have qh1 : (decide (a3 ≥ 0)) = true := by simp; omega
            have qh2 : (a3 == b3) = false := by simp [h2]
            rw [hA]
            clear hA h0 h3 h4 h2
            go_enter Try.func6, Try.ntmps6
            go_wp2
            go_ret
            exact ⟨rfl, by go_grown⟩
        · have hA : depM (a0, a1, a2, a3) (b0, b1, b2, b3) = false := by simp [depM, h0, h3, h4, h1] <;> omega
          have qh0 : (a0 == b0) = false := by simp [h0]
          have qh3 : (a2 == 1) = true := by simp [h3]
          have rh3 : (a2 != 1) = false := by simp [h3]
          have qh4 : (b2 == 1) = false := by simp [h4]
          have rh4 : (b2 != 1) = true := by simp [h4]
          have qh1 : (decide (a3 ≥ 0)) = false := by simp; omega
          rw [hA]
          clear hA h0 h3 h4
          go_enter Try.func6, Try.ntmps6
          go_wp2
          go_ret
          exact ⟨rfl, by go_grown⟩
    · by_cases h1 : 0 ≤ a3
      · by_cases h2 : a3 = b3
        · have hA : depM (a0, a1, a2, a3) (b0, b1, b2, b3) = true := by simp [depM, h0, h3, h1, h2] <;> omega
          have qh0 : (a0 == b0) = false := by simp [h0]
          have qh3 : (a2 == 1) = false := by simp [h3]
          have rh3 : (a2 != 1) = true := by simp [h3]
          have qh1 : (decide (a3 ≥ 0)) = true := by simp; omega
          have qh2 : (a3 == b3) = true := by simp [h2]
          rw [hA]
          clear hA h0 h3 h2
          go_enter Try.func6, Try.ntmps6
          go_wp2
          go_ret
          exact ⟨rfl, by go_grown⟩
        · have hA : depM (a0, a1, a2, a3) (b0, b1, b2, b3) = false := by simp [depM, h0, h3, h1, h2] <;> omega
          have qh0 : (a0 == b0) = false := by simp [h0]
          have qh3 : (a2 == 1) = false := by simp [h3]
          have rh3 : (a2 != 1) = true := by simp [h3]
          have qh1 : (decide (a3 ≥ 0)) = true := by simp; omega
          have qh2 : (a3 == b3) = false := by simp [h2]
          rw [hA]
          clear hA h0 h3 h2
          go_enter Try.func6, Try.ntmps6
          go_wp2
          go_ret
          exact ⟨rfl, by go_grown⟩
      · have hA : depM (a0, a1, a2, a3) (b0, b1, b2, b3) = false := by simp [depM, h0, h3, h1] <;> omega
        have qh0 : (a0 == b0) = false := by simp [h0]
        have qh3 : (a2 == 1) = false := by simp [h3]
        have rh3 : (a2 != 1) = true := by simp [h3]
        have qh1 : (decide (a3 ≥ 0)) = false := by simp; omega
        rw [hA]
        clear hA h0 h3
        go_enter Try.func6, Try.ntmps6
        go_wp2
        go_ret
        exact ⟨rfl, by go_grown⟩

end Go.Proofs.Ytgjmangbigibbaa
