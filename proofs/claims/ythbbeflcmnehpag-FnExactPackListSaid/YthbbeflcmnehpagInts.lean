/-
  Slices of integers in memory, read and copied: what the walks ask of a slice that came in ('Ints'), and the contracts of the laws' own helpers toIntS (a copy) and eqIntS (alike or not).
-/
import Derived.Test.YthbbeflcmnehpagProg
import Derived.WalkKit
import Derived.WalkSpells
import Derived.WalkLawsBesides
import Derived.RegionTactic
import Derived.BigQuiet
import Derived.Deep.QuietTactic
namespace Go.Proofs.Ythbbeflcmnehpag
open Go.RowKit

/-- What the frame tells of a slice of integers that came in: it is nil; or it leads to a row of 'cap' cells, the numbers 'zs' (the first 'len' are its elements), each fitting its kind. -/
def IsRow (k : IntKind) (w : World) (a : Option Addr) (len cap : Nat) (zs : List Int) : Prop :=
  (a = none ∧ len = 0 ∧ cap = 0 ∧ zs = []) ∨
  ∃ x, a = some x ∧ len ≤ cap ∧ cap ≤ maxLen ∧ zs.length = cap ∧ (∀ i, i < zs.length → w.cell? (x.add i) = some (.int k (zs.getD i 0))) ∧ ∀ n ∈ zs, (Lit.int k n).wf = true

/-- The elements of a slice in memory are the numbers zs. -/
def Ints (k : IntKind) (w : World) (a : Option Addr) (len cap : Nat) (zs : List Int) : Prop :=
  zs.length = len ∧ len ≤ cap ∧ cap ≤ maxLen ∧
  (len = 0 ∨ ∃ b off, a = some ⟨b, off, none⟩ ∧ b < w.heap.size ∧ ∀ t, t < len → w.cell? ⟨b, off + t, none⟩ = some (.int k (zs.getD t 0)))

theorem lt_of_cell {w : World} {b o : Nat} {v : Value} (h : w.cell? ⟨b, o, none⟩ = some v) : b < w.heap.size := by
  rcases Nat.lt_or_ge b w.heap.size with h' | h'
  · exact h'
  · simp [World.cell?, Array.getElem?_eq_none h'] at h

theorem Ints.of_isRow {k : IntKind} {w : World} {a : Option Addr} {len cap : Nat} {zs : List Int} (h : IsRow k w a len cap zs) : Ints k w a len cap (zs.take len) := by
  rcases h with ⟨rfl, rfl, rfl, rfl⟩ | ⟨x, rfl, hl, hm, hz, hcell, _⟩
  · exact ⟨rfl, Nat.le_refl _, by unfold maxLen; omega, .inl rfl⟩
  · refine ⟨by simp; omega, hl, hm, ?_⟩
    rcases Nat.eq_zero_or_pos len with h0 | h0
    · exact .inl h0
    · right
      obtain ⟨b, off, spot⟩ := x
      have hc := hcell 0 (by omega)
      have hspot : spot = none := by simpa [Addr.add] using World.cell?_spot hc
      subst hspot
      have hall : ∀ t, t < len → w.cell? ⟨b, off + t, none⟩ = some (.int k ((zs.take len).getD t 0)) := by
        intro t ht
        have := hcell t (by omega)
        have e : (⟨b, off, none⟩ : Addr).add t = ⟨b, off + t, none⟩ := by unfold Addr.add; split <;> simp_all
        rw [e] at this
        rw [this]
        simp [List.getD, ht]
      exact ⟨b, off, rfl, lt_of_cell (hall 0 h0), hall⟩

theorem Ints.below {k : IntKind} {w w' : World} {a : Option Addr} {len cap : Nat} {zs : List Int} (h : Ints k w a len cap zs) (hb : Below w.heap.size w w') : Ints k w' a len cap zs := by
  obtain ⟨h1, h2, h3, h4⟩ := h
  refine ⟨h1, h2, h3, ?_⟩
  rcases h4 with h4 | ⟨b, off, ha, hlt, hc⟩
  · exact .inl h4
  · exact .inr ⟨b, off, ha, by have := hb.size; omega, fun t ht => by rw [hb.cell (p := ⟨b, off + t, none⟩) hlt]; exact hc t ht⟩

theorem Ints.of_owns {k : IntKind} {w : World} {base e n cap g : Nat} {zs : List Int} (h : w.ownsRow base e 1 (.slice (some ⟨g, 0, none⟩) n cap) n (zs.map (Value.int k))) : Ints k w (some ⟨g, 0, none⟩) n cap zs := by
  have hl : zs.length = n := by simpa using h.1
  have hc : ∀ t, t < n → w.cell? ⟨g, 0 + t, none⟩ = some (.int k (zs.getD t 0)) := by
    intro t ht
    have := h.cellAt t (by omega)
    rw [Nat.zero_add, this]
    simp [List.getElem?_eq_getElem (show t < zs.length by omega)]
  have hg := (h.lt g rfl).2
  rcases h.2 with ⟨h0, _⟩ | ⟨g', cap', cur, hv, _, _, hn, hcap, _, _⟩
  · cases h0
  · cases hv
    exact ⟨hl, hn, hcap, .inr ⟨g, 0, rfl, hg, hc⟩⟩

theorem info_int : (Try.prog.info? 3).map (fun i => (i.zero, i.size, i.bytes)) = some (some (.int .i64 0), 1, 8) := by kernel_rfl

theorem made_ints (n : Nat) : (madeCells #[Value.int .i64 0] n).toList = (List.replicate n (0 : Int)).map (Value.int .i64) := by
  rw [toList_madeCells_one, List.map_replicate]

theorem set_step : ∀ (zs : List Int) (len k : Nat), k < len → zs.length = len → (zs.take k ++ List.replicate (len - k) 0).set k (zs.getD k 0) = zs.take (k + 1) ++ List.replicate (len - (k + 1)) 0
  | [], len, k, hk, hl => by simp at hl; omega
  | z :: zs, len, 0, _, hl => by
    obtain ⟨n, rfl⟩ : ∃ n, len = n + 1 := ⟨len - 1, by simp at hl; omega⟩
    simp [List.replicate_succ]
  | z :: zs, len, k + 1, hk, hl => by
    obtain ⟨n, rfl⟩ : ∃ n, len = n + 1 := ⟨len - 1, by omega⟩
    have ih := set_step zs n k (by omega) (by simpa using hl)
    simp only [Nat.add_sub_add_right, List.take_succ_cons, List.cons_append, List.set_cons_succ, List.getD_cons_succ, ih]

set_option maxHeartbeats 1000000 in
set_option maxRecDepth 100000 in
/-- toIntS: a copy, in memory of its own. -/
theorem toIntS_any (a : Option Addr) (len cap : Nat) (zs : List Int) (w : World) (h : Ints .i64 w a len cap zs) (hlen : len ≤ 1048576) :
    Calls Try.prog 11 #[.slice a len cap] w fun e w' => e = .returned (.slice (some ⟨w.heap.size, 0, none⟩) len len) ∧
      w'.ownsRow w.heap.size 3 1 (.slice (some ⟨w.heap.size, 0, none⟩) len len) len (zs.map (Value.int .i64)) ∧ Below w.heap.size w w' := by
  obtain ⟨i0, hi, hz0, hz1, hz2⟩ := info_parts info_int
  obtain ⟨hl, hlc, hcm, hcase⟩ := h
  unfold maxLen at hcm
  rcases hcase with h0 | ⟨b, off, rfl, hblt, hcell⟩
  · subst h0
    have hz : zs = [] := by simpa using hl
    subst hz
    go_enter Try.func11, Try.ntmps11
    go_wp2_with (at_make; refine wpList_make_full _ rfl _ _ 26 rfl w.heap.size 3 i0 (.int .i64 0) 1 Try.underlying26 hi hz0 hz1 _ _ _ _ 0 rfl rfl (by omega) (by omega) ?b2 ?b3 (Nat.le_refl _) ?_)
    case b2 => omega
    case b3 => unfold maxLen; omega
    intro w0 hown0 hgrow0
    have hb0 : Below w.heap.size w w0 := (Below.refl _ _).grown hgrow0 (Nat.le_refl _) (fun k h => by cases h)
    rw [made_ints] at hown0
    clear hgrow0
    go_wp2
    refine wp_loop_rounds 1 ?_
    rw [rounds_succ]
    go_wp2
    go_ret
    exact ⟨rfl, hown0, hb0⟩
  · go_enter Try.func11, Try.ntmps11
    go_wp2_with (at_make; refine wpList_make_full _ rfl _ _ 26 rfl w.heap.size 3 i0 (.int .i64 0) 1 Try.underlying26 hi hz0 hz1 _ _ _ _ len rfl rfl (by omega) (by omega) ?b2 ?b3 (Nat.le_refl _) ?_)
    case b2 => rw [hz2]; omega
    case b3 => unfold maxLen; omega
    intro w0 hown0 hgrow0
    have hb0 : Below w.heap.size w w0 := (Below.refl _ _).grown hgrow0 (Nat.le_refl _) (fun k h => by cases h)
    rw [made_ints] at hown0
    clear hgrow0
    go_wp2
    go_loopw [4] (fun si wr => ∃ k : Nat, k ≤ len ∧ si = .int .i64 k ∧ wr.ownsRow w.heap.size 3 1 (.slice (some ⟨w.heap.size, 0, none⟩) len len) len ((zs.take k ++ List.replicate (len - k) (0 : Int)).map (Value.int .i64)) ∧ Below w.heap.size w wr) (fun si _ => len - (intOf si).toNat)
    case atStart => exact ⟨0, by omega, rfl, by simpa using hown0, hb0⟩
    case round =>
      obtain ⟨k, hk, rfl, ho, hbel⟩ := hrel
      by_cases hlt : k < len
      · have hc : wr.cell? ⟨b, off + k, none⟩ = some (.int .i64 (zs.getD k 0)) := by rw [hbel.cell (p := ⟨b, off + k, none⟩) hblt]; exact hcell k hlt
        have hf := ho.frozenAt k
        have hst := ho.stored k (.int .i64 (zs.getD k 0))
        have hold : ∃ u, wr.cell? ⟨w.heap.size, k, none⟩ = some u := by
          have := ho.cellAt k (by omega)
          rw [this]
          exact ⟨_, List.getElem?_eq_getElem (by simp; omega)⟩
        obtain ⟨u, hu⟩ := hold
        have R : (wr.setCell ⟨w.heap.size, k, none⟩ (.int .i64 (zs.getD k 0))).ownsRow w.heap.size 3 1 (.slice (some ⟨w.heap.size, 0, none⟩) len len) len ((zs.take (k + 1) ++ List.replicate (len - (k + 1)) (0 : Int)).map (Value.int .i64)) := by
          have := hst.1
          rw [← List.map_set, set_step zs len k hlt hl] at this
          exact this
        have hb1 : Below w.heap.size w (wr.setCell ⟨w.heap.size, k, none⟩ (.int .i64 (zs.getD k 0))) := hbel.setCell (Nat.le_refl _) _
        clear hst ho
        generalize zs.getD k 0 = x at hc R hb1
        go_wp2
        go_roundw
        case rel => exact ⟨k + 1, by omega, by go_num, R, hb1⟩
        case measure => simp [intOf]; omega
      · obtain rfl : k = len := by omega
        go_wp2
        go_ret
        refine ⟨rfl, ?_, hbel⟩
        have e : zs.take k ++ List.replicate (k - k) (0 : Int) = zs := by rw [Nat.sub_self]; simp [List.take_of_length_le (Nat.le_of_eq hl)]
        rw [e] at ho
        exact ho
end Go.Proofs.Ythbbeflcmnehpag
