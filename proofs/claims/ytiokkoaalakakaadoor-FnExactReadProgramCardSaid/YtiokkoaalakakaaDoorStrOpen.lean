/-
  A slice of strings that came in: opened; its size (szStringS); copied (toStringS).
-/
import Derived.Test.YtiokkoaalakakaaDoorStrS
import Derived.Test.YtiokkoaalakakaaDoorProg2
import Derived.Deep.Strs
import Derived.ChangeSame
namespace Go.Proofs.YtiokkoaalakakaaDoor
open Go.RowKit Go.ChangeShapes Go.WideShapes

/-- What the frame tells of a slice of strings that came in. -/
def StrsIn (w : World) (a : Option Addr) (len cap : Nat) (ts : List ByteArray) : Prop := Strs w a len cap ts ∧ ∀ t ∈ ts, t.size ≤ maxLen

set_option maxRecDepth 100000 in
theorem open_strS {H : Type} {enc : TypeId × Value → H} {w : World} {base : Nat} {spare : Nat → Bool} {held : Bool} {r : Reach} {b0 : Nat} {v : Value} {d : DataW H} {p : List MemPlace}
    (hv : Value.okWide Tryd.prog w r b0 37 v) (h : DataW.Trod enc Tryd.prog w base spare held 37 v d p) : ∃ a len cap ts, v = .slice a len cap ∧ StrsIn w a len cap ts := by
  obtain ⟨a, len, cap, rfl⟩ := okWide_slice Tryd.underlying37 hv
  obtain ⟨fuel, hf⟩ := h
  rcases Go.Deep.open_strs Tryd.underlying37 Tryd.underlying9 (by kernel_rfl) hf with ⟨hcs, _⟩ | ⟨x, l, c, m, Sx, hcs, _, hl, hm, hmm, _, hcell⟩
  · simp [Value.cells] at hcs
    obtain ⟨rfl, rfl, rfl⟩ := hcs
    exact ⟨none, 0, 0, [], rfl, ⟨rfl, Nat.le_refl _, by unfold maxLen; omega, .inl rfl⟩, by simp⟩
  · simp [Value.cells] at hcs
    obtain ⟨rfl, rfl, rfl⟩ := hcs
    have hlm : len ≤ m := by rw [hmm]; split <;> omega
    refine ⟨_, _, _, (List.range len).map Sx, rfl, ⟨by simp, hl, hm, ?_⟩, ?_⟩
    · rcases Nat.eq_zero_or_pos len with h0 | h0
      · exact .inl h0
      right
      obtain ⟨b, off, spot⟩ := x
      have hc := (hcell 0 (by omega)).1
      have hspot : spot = none := by simpa [Addr.add] using World.cell?_spot hc
      subst hspot
      have hall : ∀ t, t < len → w.cell? ⟨b, off + t, none⟩ = some (.string (((List.range len).map Sx).getD t ByteArray.empty)) := by
        intro t ht
        have := (hcell t (by omega)).1
        have e : (⟨b, off, none⟩ : Addr).add t = ⟨b, off + t, none⟩ := by unfold Addr.add; split <;> simp_all
        rw [e] at this
        rw [this]
        simp [List.getD, ht]
      exact ⟨b, off, rfl, lt_of_cell (hall 0 h0), hall⟩
    · intro t ht
      obtain ⟨i, hi, rfl⟩ := List.mem_map.1 ht
      exact (hcell i (by have := List.mem_range.1 hi; omega)).2

/-- What szStringS answers: -1; or the slice is not too large. -/
def SzOut (len : Nat) (ts : List ByteArray) (e : Ending) : Prop := ∃ r : Int, e = .returned (.int .i64 r) ∧ (r = -1 ∨ (0 ≤ r ∧ len ≤ 1048576 ∧ ∀ t ∈ ts, t.size ≤ 1048576))

set_option maxHeartbeats 1000000 in
set_option maxRecDepth 100000 in
theorem szStringS_any (a : Option Addr) (len cap : Nat) (ts : List ByteArray) (w : World) (h : StrsIn w a len cap ts) :
    Calls Tryd.prog 23 #[.slice a len cap, .int .i64 1048576] w fun e w' => SzOut len ts e ∧ w = w' := by
  obtain ⟨⟨hl, hlc, hcm, hcase⟩, hsz⟩ := h
  unfold maxLen at hcm
  by_cases hlt : 1048576 < len
  · have h1 : (1048576 : Int) - (len : Int) < 0 := by omega
    go_enter Tryd.func23, Tryd.ntmps23
    go_wp2
    go_ret
    exact ⟨⟨_, rfl, .inl rfl⟩, rfl⟩
  · have h1 : ¬ (1048576 : Int) - (len : Int) < 0 := by omega
    go_enter Tryd.func23, Tryd.ntmps23
    go_wp2
    go_loop [1, 5] (fun sl si => ∃ (k : Nat) (l : Int), k ≤ len ∧ 0 ≤ l ∧ l ≤ 1048576 ∧ si = .int .i64 k ∧ sl = .int .i64 l ∧ Hid (∀ j, j < k → (ts.getD j ByteArray.empty).size ≤ 1048576)) (fun _ si => len - (intOf si).toNat)
    case atStart => exact ⟨0, 1048576 - len, by omega, by omega, by omega, rfl, rfl, fun j hj => by omega⟩
    case round =>
      obtain ⟨k, l, hk, hl0, hl1, rfl, rfl, hS⟩ := hrel
      by_cases hkl : k < len
      · have hkl2 : (k : Int) < (len : Int) := by omega
        rcases hcase with h0 | ⟨b, off, rfl, hblt, hcell⟩
        · omega
        have hc := hcell k hkl
        have hts : (ts.getD k ByteArray.empty).size ≤ maxLen := hsz _ (by simp [List.getD, show k < ts.length by omega])
        unfold maxLen at hts
        have hS2 : (ts.getD k ByteArray.empty).size ≤ 1048576 → Hid (∀ j, j < k + 1 → (ts.getD j ByteArray.empty).size ≤ 1048576) := fun hh j hj => by
          rcases Nat.lt_or_ge j k with h' | h'
          · exact hS.out j h'
          · obtain rfl : j = k := by omega
            exact hh
        generalize ts.getD k ByteArray.empty = t at hc hts hS2
        clear hcell hsz
        by_cases hneg : l - (t.size : Int) < 0
        · clear hS2
          go_wp2
          go_ret
          exact ⟨⟨_, rfl, .inl rfl⟩, rfl⟩
        · have HS := hS2 (by omega)
          clear hS2 hS
          go_wp2
          go_round
          case rel => exact ⟨k + 1, l - t.size, by omega, by omega, by omega, by go_num, by go_num, HS⟩
          case measure => simp [intOf]; omega
      · obtain rfl : k = len := by omega
        clear hcase hsz
        have HL : Hid (∀ t ∈ ts, t.size ≤ 1048576) := fun t ht => by
          obtain ⟨i, hi, rfl⟩ := List.getElem_of_mem ht
          have := hS.out i (by omega)
          simpa [List.getD, hi] using this
        clear hS
        go_wp2
        go_ret
        exact ⟨⟨l, rfl, .inr ⟨hl0, by omega, HL.out⟩⟩, rfl⟩

theorem set1_take {cs l : List Value} {k : Nat} (a : Value) (hl : k + 1 ≤ cs.length) (ht : cs.take k = l) : (cs.set k a).take (k + 1) = l ++ [a] := by
  have hll : l.length = k := by rw [← ht, List.length_take]; omega
  obtain ⟨x, rest, hd⟩ : ∃ x rest, cs.drop k = x :: rest := by
    match h : cs.drop k, (by rw [List.length_drop]; omega : 1 ≤ (cs.drop k).length) with
    | x :: rest, _ => exact ⟨x, rest, rfl⟩
  have hcs : cs = l ++ x :: rest := by rw [← ht, ← hd, List.take_append_drop]
  rw [hcs, ← hll, List.set_append_right _ _ (Nat.le_refl _), List.take_length_add_append]
  simp
theorem info_st : (Tryd.prog.info? 9).map (fun i => (i.zero, i.size, i.bytes)) = some (some (.string ⟨#[]⟩), 1, 16) := by kernel_rfl

set_option maxHeartbeats 1000000 in
set_option maxRecDepth 100000 in
/-- toStringS: a copy, in memory of its own. -/
theorem toStringS_copy (a : Option Addr) (len cap : Nat) (ts : List ByteArray) (w : World) (h : Strs w a len cap ts) (hn : len ≤ 1048576) :
    Calls Tryd.prog 25 #[.slice a len cap] w fun e w' => e = .returned (.slice (some ⟨w.heap.size, 0, none⟩) len len) ∧
      w'.ownsRow w.heap.size 9 1 (.slice (some ⟨w.heap.size, 0, none⟩) len len) len (ts.map Value.string) ∧ Below w.heap.size w w' := by
  obtain ⟨i0, hi, hz0, hz1, hz2⟩ := info_parts info_st
  obtain ⟨hl, hlc, hcm, hcase⟩ := h
  unfold maxLen at hcm
  go_enter Tryd.func25, Tryd.ntmps25
  go_wp2_with (at_make; refine wpList_make_full _ rfl _ _ 37 rfl w.heap.size 9 i0 (.string ⟨#[]⟩) 1 Tryd.underlying37 hi hz0 hz1 _ _ _ _ len rfl rfl (by omega) (by omega) ?b2 ?b3 (Nat.le_refl _) ?_)
  case b2 => rw [hz2]; omega
  case b3 => unfold maxLen; omega
  intro w0 hown0 hgrow0
  have hb0 : Below w.heap.size w w0 := (Below.refl _ _).grown hgrow0 (Nat.le_refl _) (fun k h => by cases h)
  obtain ⟨cs0, hcs0⟩ : ∃ cs0, cs0 = (madeCells #[Value.string ⟨#[]⟩] (len * 1)).toList := ⟨_, rfl⟩
  first | rw [← hcs0] at hown0 | (rw [Nat.mul_one] at hcs0; rw [← hcs0] at hown0)
  clear hgrow0 hcs0
  go_wp2
  go_loopw [4] (fun si wr => ∃ (k : Nat) (cs : List Value), k ≤ len ∧ si = .int .i64 k ∧ Hid (cs.take k = (ts.take k).map Value.string) ∧ wr.ownsRow w.heap.size 9 1 (.slice (some ⟨w.heap.size, 0, none⟩) len len) len cs ∧ Below w.heap.size w wr) (fun si _ => len - (intOf si).toNat)
  case atStart => exact ⟨0, cs0, by omega, rfl, by simp [Hid], hown0, hb0⟩
  case round =>
    obtain ⟨k, cs, hk, rfl, hH, ho, hbel⟩ := hrel
    by_cases hlt : k < len
    · rcases hcase with h0 | ⟨b, off, rfl, hblt, hcell⟩
      · omega
      have hlt2 : (k : Int) < (len : Int) := by omega
      have hc := hcell k hlt
      rw [← hbel.cell (p := ⟨b, _, none⟩) hblt] at hc
      have hstep : ts.take (k + 1) = ts.take k ++ [ts.getD k ByteArray.empty] := by
        rw [List.take_succ_eq_append_getElem (show k < ts.length by omega)]
        simp [List.getD, show k < ts.length by omega]
      generalize ts.getD k ByteArray.empty = t at hc hstep
      clear hcell
      have hlen := ho.1
      have f0 := ho.frozenAt k
      obtain ⟨u0, hu0⟩ : ∃ u, wr.cell? ⟨w.heap.size, k, none⟩ = some u := ⟨_, by rw [ho.cellAt _ (by omega)]; exact List.getElem?_eq_getElem (by omega)⟩
      have R := (ho.stored k (.string t)).1
      have hT : Hid ((cs.set k (.string t)).take (k + 1) = (ts.take (k + 1)).map Value.string) := by
        rw [Hid, hstep, List.map_append]
        exact set1_take _ (by omega) hH.out
      have hb3 : Below w.heap.size w (wr.setCell ⟨w.heap.size, k, none⟩ (.string t)) := hbel.setCell (Nat.le_refl _) _
      clear hH ho hbel hstep
      generalize cs.set k (.string t) = cs' at R hT
      go_wp2
      go_roundw
      case rel => exact ⟨k + 1, cs', by omega, by go_num, hT, R, hb3⟩
      case measure => simp [intOf]; omega
    · obtain rfl : k = len := by omega
      clear hcase
      have e : cs = ts.map Value.string := by
        have h1 := hH.out
        have h2 := ho.1
        rwa [List.take_of_length_le (by omega), List.take_of_length_le (by omega)] at h1
      clear hH
      go_wp2
      go_ret
      exact ⟨rfl, by rw [← e]; exact ho, hbel⟩
end Go.Proofs.YtiokkoaalakakaaDoor
