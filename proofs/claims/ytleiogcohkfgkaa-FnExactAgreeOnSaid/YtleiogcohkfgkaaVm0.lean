
/-
  States of the machine in memory: four slices of integers; a state that came in, opened.
-/
import Derived.Test.YtleiogcohkfgkaaInts0
import Derived.Test.YtleiogcohkfgkaaProg0
import Derived.ChangeSlices
import Derived.Lib.SmallJoins
namespace Go.Proofs.Ytleiogcohkfgkaa
open Go.RowKit Go.ChangeShapes Go.WideShapes Go.Joins

/-- A state: places, what is shared, locks, registers. -/
abbrev V4 := List Int × List Int × List Int × List Int
/-- A slice's three parts; four slices. -/
abbrev Sl := Option Addr × Nat × Nat
def Sl.val (s : Sl) : Value := .slice s.1 s.2.1 s.2.2
abbrev S4 := Sl × Sl × Sl × Sl
def S4.val (s : S4) : Value := .agg #[.slice s.1.1 s.1.2.1 s.1.2.2, .slice s.2.1.1 s.2.1.2.1 s.2.1.2.2, .slice s.2.2.1.1 s.2.2.1.2.1 s.2.2.1.2.2, .slice s.2.2.2.1 s.2.2.2.2.1 s.2.2.2.2.2]
def SlInts (w : World) (s : Sl) (zs : List Int) : Prop := Ints .i64 w s.1 s.2.1 s.2.2 zs ∧ ∀ z ∈ zs, (Lit.int .i64 z).wf = true
def Vmem (w : World) (s : S4) (m : V4) : Prop := SlInts w s.1 m.1 ∧ SlInts w s.2.1 m.2.1 ∧ SlInts w s.2.2.1 m.2.2.1 ∧ SlInts w s.2.2.2 m.2.2.2

theorem SlInts.below {w w' : World} {s : Sl} {zs : List Int} (h : SlInts w s zs) (hb : Below w.heap.size w w') : SlInts w' s zs := ⟨h.1.below hb, h.2⟩
theorem Vmem.below {w w' : World} {s : S4} {m : V4} (h : Vmem w s m) (hb : Below w.heap.size w w') : Vmem w' s m := ⟨h.1.below hb, h.2.1.below hb, h.2.2.1.below hb, h.2.2.2.below hb⟩

section
variable {H : Type} {enc : TypeId × Value → H} {P : Program} {w : World} {base : Nat} {spare : Nat → Bool} {held : Bool}
/-- A slice of integers, opened. -/
theorem open_slI {t e : TypeId} {fuel : Nat} {v : Value} {x : DataW H × List MemPlace} (hs : P.underlying t = some (.slice e)) (he : P.underlying e = some (.int .i64)) (hC : P.cellsOf e = 1)
    (h : DataW.trod enc P w base spare held fuel t [v] = some x) : ∃ (s : Sl) (zs : List Int), v = s.val ∧ SlInts w s zs := by
  rcases Go.ChangeShapes.open_ints hs he hC h with ⟨hcs, _⟩ | ⟨a, len, cap, zs, hcs, _, hl, hm, hz, _, hcell, hwf⟩
  · simp at hcs
    exact ⟨(none, 0, 0), [], hcs, ⟨rfl, Nat.le_refl _, Nat.zero_le _, .inl rfl⟩, by simp⟩
  · simp at hcs
    have hle : len ≤ zs.length := by rw [hz]; split <;> omega
    refine ⟨(some a, len, cap), zs.take len, hcs, ⟨by simp; omega, hl, hm, ?_⟩, fun z hz => hwf z (List.mem_of_mem_take hz)⟩
    rcases Nat.eq_zero_or_pos len with h0 | h0
    · exact .inl h0
    · right
      obtain ⟨b, off, spot⟩ := a
      have hc := hcell 0 (by omega)
      have hspot : spot = none := by simpa [Addr.add] using World.cell?_spot hc
      subst hspot
      have hall : ∀ t, t < len → w.cell? ⟨b, off + t, none⟩ = some (.int .i64 ((zs.take len).getD t 0)) := by
        intro t ht
        have := hcell t (by omega)
        have e : (⟨b, off, none⟩ : Addr).add t = ⟨b, off + t, none⟩ := by unfold Addr.add; split <;> simp_all
        rw [e] at this
        rw [this]
        simp [List.getD, ht]
      exact ⟨b, off, rfl, lt_of_cell (hall 0 h0), hall⟩
end

end Go.Proofs.Ytleiogcohkfgkaa
