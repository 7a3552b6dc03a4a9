/-
  FnBugs, part 22 of 50 (Vm0, Ints).
-/
import Derived.Test.YtkmnnmgopnoffaaDoorJ01
import Derived.Test.YtkmnnmgopnoffaaDoorJ03
import Derived.ChangeSlices
import Derived.Lib.SmallJoins

/-
  States of the machine in memory: four slices of integers; a state that came in, opened.
-/
namespace Go.Proofs.YtkmnnmgopnoffaaDoor
open Go.RowKit Go.ChangeShapes Go.WideShapes Go.Joins

/-- A state: places, what is shared, locks, registers. -/
abbrev V4 := List Int × List Int × List Int × List Int
/-- A slice's three parts; four slices. -/
abbrev Sl := Option Addr × Nat × Nat
def Sl.val (s : Sl) : Value := .slice s.1 s.2.1 s.2.2
abbrev S4 := Sl × Sl × Sl × Sl
def S4.val (s : S4) : Value := .agg #[.slice s.1.1 s.1.2.1 s.1.2.2, .slice s.2.1.1 s.2.1.2.1 s.2.1.2.2, .slice s.2.2.1.1 s.2.2.1.2.1 s.2.2.1.2.2, .slice s.2.2.2.1 s.2.2.2.2.1 s.2.2.2.2.2]
def SlInts (w : World) (s : Sl) (zs : List Int) : Prop := Ints .i64 w s.1 s.2.1 s.2.2 zs ∧ ∀ z ∈ zs, (Lit.int .i64 z).wf = true
def Vmem (w : World) (s : S4) (m : V4) : Prop := SlInts w s.1 m.1 ∧ SlInts w s.2.1 m.2.1 ∧ SlInts w s.2.2.1 m.2.2.1 ∧ SlInts w s.2.2.2 m.2.2.2

theorem SlInts.below {w w' : World} {s : Sl} {zs : List Int} (h : SlInts w s zs) (hb : Below w.heap.size w w') : SlInts w' s zs := ⟨h.1.below hb, h.2⟩
theorem Vmem.below {w w' : World} {s : S4} {m : V4} (h : Vmem w s m) (hb : Below w.heap.size w w') : Vmem w' s m := ⟨h.1.below hb, h.2.1.below hb, h.2.2.1.below hb, h.2.2.2.below hb⟩

section
variable {H : Type} {enc : TypeId × Value → H} {P : Program} {w : World} {base : Nat} {spare : Nat → Bool} {held : Bool}
/-- A slice of integers, opened. -/
theorem open_slI {t e : TypeId} {fuel : Nat} {v : Value} {x : DataW H × List MemPlace} (hs : P.underlying t = some (.slice e)) (he : P.underlying e = some (.int .i64)) (hC : P.cellsOf e = 1)
    (h : DataW.trod enc P w base spare held fuel t [v] = some x) : ∃ (s : Sl) (zs : List Int), v = s.val ∧ SlInts w s zs := by
  rcases Go.ChangeShapes.open_ints hs he hC h with ⟨hcs, _⟩ | ⟨a, len, cap, zs, hcs, _, hl, hm, hz, _, hcell, hwf⟩
  · simp at hcs
    exact ⟨(none, 0, 0), [], hcs, ⟨rfl, Nat.le_refl _, Nat.zero_le _, .inl rfl⟩, by simp⟩
  · simp at hcs
    have hle : len ≤ zs.length := by rw [hz]; split <;> omega
    refine ⟨(some a, len, cap), zs.take len, hcs, ⟨by simp; omega, hl, hm, ?_⟩, fun z hz => hwf z (List.mem_of_mem_take hz)⟩
    rcases Nat.eq_zero_or_pos len with h0 | h0
    · exact .inl h0
    · right
      obtain ⟨b, off, spot⟩ := a
      have hc := hcell 0 (by omega)
      have hspot : spot = none := by simpa [Addr.add] using World.cell?_spot hc
      subst hspot
      have hall : ∀ t, t < len → w.cell? ⟨b, off + t, none⟩ = some (.int .i64 ((zs.take len).getD t 0)) := by
        intro t ht
        have := hcell t (by omega)
        have e : (⟨b, off, none⟩ : Addr).add t = ⟨b, off + t, none⟩ := by unfold Addr.add; split <;> simp_all
        rw [e] at this
        rw [this]
        simp [List.getD, ht]
      exact ⟨b, off, rfl, lt_of_cell (hall 0 h0), hall⟩
end

set_option maxRecDepth 100000 in
/-- A state that came in, opened. -/
theorem open_laws_Vm {H : Type} {enc : TypeId × Value → H} {w : World} {base : Nat} {spare : Nat → Bool} {held : Bool} {r : Reach} {b0 : Nat} {v : Value} {d : DataW H} {p : List MemPlace}
    (hv : Value.okWide Tryd.prog w r b0 66 v) (h : DataW.Trod enc Tryd.prog w base spare held 66 v d p) : ∃ (s : S4) (m : V4), v = s.val ∧ Vmem w s m := by
  obtain ⟨cs, rfl, hsz⟩ := okWide_struct Tryd.underlying66 hv
  have hsz' : cs.size = 4 := hsz.trans (by kernel_rfl)
  obtain ⟨fuel, hf⟩ := h
  obtain ⟨y0, y1, y2, y3, n, _, _, h0, h1, h2, h3⟩ := trod_struct4 Tryd.underlying66 hf
  obtain ⟨v0, v1, v2, v3, rfl⟩ := array4 hsz'
  have hk : Tryd.prog.cellsOf 27 = 1 := by kernel_rfl
  simp only [Value.cells, hk] at h0 h1 h2 h3
  obtain ⟨s0, m0, e0, g0⟩ := open_slI Tryd.underlying27 Tryd.underlying3 (by kernel_rfl) h0
  obtain ⟨s1, m1, e1, g1⟩ := open_slI Tryd.underlying27 Tryd.underlying3 (by kernel_rfl) h1
  obtain ⟨s2, m2, e2, g2⟩ := open_slI Tryd.underlying27 Tryd.underlying3 (by kernel_rfl) h2
  obtain ⟨s3, m3, e3, g3⟩ := open_slI Tryd.underlying27 Tryd.underlying3 (by kernel_rfl) h3
  exact ⟨(s0, s1, s2, s3), (m0, m1, m2, m3), by rw [e0, e1, e2, e3]; rfl, g0, g1, g2, g3⟩
end Go.Proofs.YtkmnnmgopnoffaaDoor


/-
  toIntS: a copy of a slice of integers, in memory of its own.
-/
namespace Go.Proofs.YtkmnnmgopnoffaaDoor
open Go.RowKit

theorem set_step : ∀ (zs : List Int) (len k : Nat), k < len → zs.length = len → (zs.take k ++ List.replicate (len - k) 0).set k (zs.getD k 0) = zs.take (k + 1) ++ List.replicate (len - (k + 1)) 0
  | [], len, k, hk, hl => by simp at hl; omega
  | z :: zs, len, 0, _, hl => by
    obtain ⟨n, rfl⟩ : ∃ n, len = n + 1 := ⟨len - 1, by simp at hl; omega⟩
    simp [List.replicate_succ]
  | z :: zs, len, k + 1, hk, hl => by
    obtain ⟨n, rfl⟩ : ∃ n, len = n + 1 := ⟨len - 1, by omega⟩
    have ih := set_step zs n k (by omega) (by simpa using hl)
    simp only [Nat.add_sub_add_right, List.take_succ_cons, List.cons_append, List.set_cons_succ, List.getD_cons_succ, ih]

set_option maxHeartbeats 1000000 in
set_option maxRecDepth 100000 in
/-- toIntS: a copy, in memory of its own. -/
theorem toIntS_any (a : Option Addr) (len cap : Nat) (zs : List Int) (w : World) (h : Ints .i64 w a len cap zs) (hlen : len ≤ 1048576) :
    Calls Tryd.prog 54 #[.slice a len cap] w fun e w' => e = .returned (.slice (some ⟨w.heap.size, 0, none⟩) len len) ∧
      w'.ownsRow w.heap.size 3 1 (.slice (some ⟨w.heap.size, 0, none⟩) len len) len (zs.map (Value.int .i64)) ∧ Below w.heap.size w w' := by
  obtain ⟨i0, hi, hz0, hz1, hz2⟩ := info_parts info_int
  obtain ⟨hl, hlc, hcm, hcase⟩ := h
  unfold maxLen at hcm
  rcases hcase with h0 | ⟨b, off, rfl, hblt, hcell⟩
  · subst h0
    have hz : zs = [] := by simpa using hl
    subst hz
    go_enter Tryd.func54, Tryd.ntmps54
    go_wp2_with (at_make; refine wpList_make_full _ rfl _ _ 27 rfl w.heap.size 3 i0 (.int .i64 0) 1 Tryd.underlying27 hi hz0 hz1 _ _ _ _ 0 rfl rfl (by omega) (by omega) ?b2 ?b3 (Nat.le_refl _) ?_)
    case b2 => omega
    case b3 => unfold maxLen; omega
    intro w0 hown0 hgrow0
    have hb0 : Below w.heap.size w w0 := (Below.refl _ _).grown hgrow0 (Nat.le_refl _) (fun k h => by cases h)
    rw [made_ints] at hown0
    clear hgrow0
    go_wp2
    refine wp_loop_rounds 1 ?_
    rw [rounds_succ]
    go_wp2
    go_ret
    exact ⟨rfl, hown0, hb0⟩
  · go_enter Tryd.func54, Tryd.ntmps54
    go_wp2_with (at_make; refine wpList_make_full _ rfl _ _ 27 rfl w.heap.size 3 i0 (.int .i64 0) 1 Tryd.underlying27 hi hz0 hz1 _ _ _ _ len rfl rfl (by omega) (by omega) ?b2 ?b3 (Nat.le_refl _) ?_)
    case b2 => rw [hz2]; omega
    case b3 => unfold maxLen; omega
    intro w0 hown0 hgrow0
    have hb0 : Below w.heap.size w w0 := (Below.refl _ _).grown hgrow0 (Nat.le_refl _) (fun k h => by cases h)
    rw [made_ints] at hown0
    clear hgrow0
    go_wp2
    go_loopw [4] (fun si wr => ∃ k : Nat, k ≤ len ∧ si = .int .i64 k ∧ wr.ownsRow w.heap.size 3 1 (.slice (some ⟨w.heap.size, 0, none⟩) len len) len ((zs.take k ++ List.replicate (len - k) (0 : Int)).map (Value.int .i64)) ∧ Below w.heap.size w wr) (fun si _ => len - (intOf si).toNat)
    case atStart => exact ⟨0, by omega, rfl, by simpa using hown0, hb0⟩
    case round =>
      obtain ⟨k, hk, rfl, ho, hbel⟩ := hrel
      by_cases hlt : k < len
      · have hc : wr.cell? ⟨b, off + k, none⟩ = some (.int .i64 (zs.getD k 0)) := by rw [hbel.cell (p := ⟨b, off + k, none⟩) hblt]; exact hcell k hlt
        have hf := ho.frozenAt k
        have hst := ho.stored k (.int .i64 (zs.getD k 0))
        have hold : ∃ u, wr.cell? ⟨w.heap.size, k, none⟩ = some u := by
          have := ho.cellAt k (by omega)
          rw [this]
          exact ⟨_, List.getElem?_eq_getElem (by simp; omega)⟩
        obtain ⟨u, hu⟩ := hold
        have R : (wr.setCell ⟨w.heap.size, k, none⟩ (.int .i64 (zs.getD k 0))).ownsRow w.heap.size 3 1 (.slice (some ⟨w.heap.size, 0, none⟩) len len) len ((zs.take (k + 1) ++ List.replicate (len - (k + 1)) (0 : Int)).map (Value.int .i64)) := by
          have := hst.1
          rw [← List.map_set, set_step zs len k hlt hl] at this
          exact this
        have hb1 : Below w.heap.size w (wr.setCell ⟨w.heap.size, k, none⟩ (.int .i64 (zs.getD k 0))) := hbel.setCell (Nat.le_refl _) _
        clear hst ho
        generalize zs.getD k 0 = x at hc R hb1
        go_wp2
        go_roundw
        case rel => exact ⟨k + 1, by omega, by go_num, R, hb1⟩
        case measure => simp [intOf]; omega
      · obtain rfl : k = len := by omega
        go_wp2
        go_ret
        refine ⟨rfl, ?_, hbel⟩
        have e : zs.take k ++ List.replicate (k - k) (0 : Int) = zs := by rw [Nat.sub_self]; simp [List.take_of_length_le (Nat.le_of_eq hl)]
        rw [e] at ho
        exact ho
end Go.Proofs.YtkmnnmgopnoffaaDoor
