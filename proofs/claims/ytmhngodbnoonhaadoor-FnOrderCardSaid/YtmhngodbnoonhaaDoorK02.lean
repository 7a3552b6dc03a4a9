/-
  Joined: Vm0, Ints, Vm2, Marks, MarkV, InOK, Ops.
-/
import Derived.Test.YtmhngodbnoonhaaDoorK01
import Derived.ChangeSlices
import Derived.Lib.SmallJoins
import Derived.Test.YtmhngodbnoonhaaDoorProg
import Derived.WalkKit
import Derived.WalkSpells
import Derived.WalkLawsBesides

/-
  States of the machine in memory: four slices of integers; a state that came in, opened.
-/
namespace Go.Proofs.YtmhngodbnoonhaaDoor
open Go.RowKit Go.ChangeShapes Go.WideShapes Go.Joins

/-- A state: places, what is shared, locks, registers. -/
abbrev V4 := List Int × List Int × List Int × List Int
/-- A slice's three parts; four slices. -/
abbrev Sl := Option Addr × Nat × Nat
def Sl.val (s : Sl) : Value := .slice s.1 s.2.1 s.2.2
abbrev S4 := Sl × Sl × Sl × Sl
def S4.val (s : S4) : Value := .agg #[.slice s.1.1 s.1.2.1 s.1.2.2, .slice s.2.1.1 s.2.1.2.1 s.2.1.2.2, .slice s.2.2.1.1 s.2.2.1.2.1 s.2.2.1.2.2, .slice s.2.2.2.1 s.2.2.2.2.1 s.2.2.2.2.2]
def SlInts (w : World) (s : Sl) (zs : List Int) : Prop := Ints .i64 w s.1 s.2.1 s.2.2 zs ∧ ∀ z ∈ zs, (Lit.int .i64 z).wf = true
def Vmem (w : World) (s : S4) (m : V4) : Prop := SlInts w s.1 m.1 ∧ SlInts w s.2.1 m.2.1 ∧ SlInts w s.2.2.1 m.2.2.1 ∧ SlInts w s.2.2.2 m.2.2.2

theorem SlInts.below {w w' : World} {s : Sl} {zs : List Int} (h : SlInts w s zs) (hb : Below w.heap.size w w') : SlInts w' s zs := ⟨h.1.below hb, h.2⟩
theorem Vmem.below {w w' : World} {s : S4} {m : V4} (h : Vmem w s m) (hb : Below w.heap.size w w') : Vmem w' s m := ⟨h.1.below hb, h.2.1.below hb, h.2.2.1.below hb, h.2.2.2.below hb⟩

section
variable {H : Type} {enc : TypeId × Value → H} {P : Program} {w : World} {base : Nat} {spare : Nat → Bool} {held : Bool}
/-- A slice of integers, opened. -/
theorem open_slI {t e : TypeId} {fuel : Nat} {v : Value} {x : DataW H × List MemPlace} (hs : P.underlying t = some (.slice e)) (he : P.underlying e = some (.int .i64)) (hC : P.cellsOf e = 1)
    (h : DataW.trod enc P w base spare held fuel t [v] = some x) : ∃ (s : Sl) (zs : List Int), v = s.val ∧ SlInts w s zs := by
  rcases Go.ChangeShapes.open_ints hs he hC h with ⟨hcs, _⟩ | ⟨a, len, cap, zs, hcs, _, hl, hm, hz, _, hcell, hwf⟩
  · simp at hcs
    exact ⟨(none, 0, 0), [], hcs, ⟨rfl, Nat.le_refl _, Nat.zero_le _, .inl rfl⟩, by simp⟩
  · simp at hcs
    have hle : len ≤ zs.length := by rw [hz]; split <;> omega
    refine ⟨(some a, len, cap), zs.take len, hcs, ⟨by simp; omega, hl, hm, ?_⟩, fun z hz => hwf z (List.mem_of_mem_take hz)⟩
    rcases Nat.eq_zero_or_pos len with h0 | h0
    · exact .inl h0
    · right
      obtain ⟨b, off, spot⟩ := a
      have hc := hcell 0 (by omega)
      have hspot : spot = none := by simpa [Addr.add] using World.cell?_spot hc
      subst hspot
      have hall : ∀ t, t < len → w.cell? ⟨b, off + t, none⟩ = some (.int .i64 ((zs.take len).getD t 0)) := by
        intro t ht
        have := hcell t (by omega)
        have e : (⟨b, off, none⟩ : Addr).add t = ⟨b, off + t, none⟩ := by unfold Addr.add; split <;> simp_all
        rw [e] at this
        rw [this]
        simp [List.getD, ht]
      exact ⟨b, off, rfl, lt_of_cell (hall 0 h0), hall⟩
end

end Go.Proofs.YtmhngodbnoonhaaDoor


/-
  toIntS: a copy of a slice of integers, in memory of its own.
-/
namespace Go.Proofs.YtmhngodbnoonhaaDoor
open Go.RowKit

theorem set_step : ∀ (zs : List Int) (len k : Nat), k < len → zs.length = len → (zs.take k ++ List.replicate (len - k) 0).set k (zs.getD k 0) = zs.take (k + 1) ++ List.replicate (len - (k + 1)) 0
  | [], len, k, hk, hl => by simp at hl; omega
  | z :: zs, len, 0, _, hl => by
    obtain ⟨n, rfl⟩ : ∃ n, len = n + 1 := ⟨len - 1, by simp at hl; omega⟩
    simp [List.replicate_succ]
  | z :: zs, len, k + 1, hk, hl => by
    obtain ⟨n, rfl⟩ : ∃ n, len = n + 1 := ⟨len - 1, by omega⟩
    have ih := set_step zs n k (by omega) (by simpa using hl)
    simp only [Nat.add_sub_add_right, List.take_succ_cons, List.cons_append, List.set_cons_succ, List.getD_cons_succ, ih]

set_option maxHeartbeats 1000000 in
set_option maxRecDepth 100000 in
/-- toIntS: a copy, in memory of its own. -/
theorem toIntS_any (a : Option Addr) (len cap : Nat) (zs : List Int) (w : World) (h : Ints .i64 w a len cap zs) (hlen : len ≤ 1048576) :
    Calls Tryd.prog 28 #[.slice a len cap] w fun e w' => e = .returned (.slice (some ⟨w.heap.size, 0, none⟩) len len) ∧
      w'.ownsRow w.heap.size 3 1 (.slice (some ⟨w.heap.size, 0, none⟩) len len) len (zs.map (Value.int .i64)) ∧ Below w.heap.size w w' := by
  obtain ⟨i0, hi, hz0, hz1, hz2⟩ := info_parts info_int
  obtain ⟨hl, hlc, hcm, hcase⟩ := h
  unfold maxLen at hcm
  rcases hcase with h0 | ⟨b, off, rfl, hblt, hcell⟩
  · subst h0
    have hz : zs = [] := by simpa using hl
    subst hz
    go_enter Tryd.func28, Tryd.ntmps28
    go_wp2_with (at_make; refine wpList_make_full _ rfl _ _ 27 rfl w.heap.size 3 i0 (.int .i64 0) 1 Tryd.underlying27 hi hz0 hz1 _ _ _ _ 0 rfl rfl (by omega) (by omega) ?b2 ?b3 (Nat.le_refl _) ?_)
    case b2 => omega
    case b3 => unfold maxLen; omega
    intro w0 hown0 hgrow0
    have hb0 : Below w.heap.size w w0 := (Below.refl _ _).grown hgrow0 (Nat.le_refl _) (fun k h => by cases h)
    rw [made_ints] at hown0
    clear hgrow0
    go_wp2
    refine wp_loop_rounds 1 ?_
    rw [rounds_succ]
    go_wp2
    go_ret
    exact ⟨rfl, hown0, hb0⟩
  · go_enter Tryd.func28, Tryd.ntmps28
    go_wp2_with (at_make; refine wpList_make_full _ rfl _ _ 27 rfl w.heap.size 3 i0 (.int .i64 0) 1 Tryd.underlying27 hi hz0 hz1 _ _ _ _ len rfl rfl (by omega) (by omega) ?b2 ?b3 (Nat.le_refl _) ?_)
    case b2 => rw [hz2]; omega
    case b3 => unfold maxLen; omega
    intro w0 hown0 hgrow0
    have hb0 : Below w.heap.size w w0 := (Below.refl _ _).grown hgrow0 (Nat.le_refl _) (fun k h => by cases h)
    rw [made_ints] at hown0
    clear hgrow0
    go_wp2
    go_loopw [4] (fun si wr => ∃ k : Nat, k ≤ len ∧ si = .int .i64 k ∧ wr.ownsRow w.heap.size 3 1 (.slice (some ⟨w.heap.size, 0, none⟩) len len) len ((zs.take k ++ List.replicate (len - k) (0 : Int)).map (Value.int .i64)) ∧ Below w.heap.size w wr) (fun si _ => len - (intOf si).toNat)
    case atStart => exact ⟨0, by omega, rfl, by simpa using hown0, hb0⟩
    case round =>
      obtain ⟨k, hk, rfl, ho, hbel⟩ := hrel
      by_cases hlt : k < len
      · have hc : wr.cell? ⟨b, off + k, none⟩ = some (.int .i64 (zs.getD k 0)) := by rw [hbel.cell (p := ⟨b, off + k, none⟩) hblt]; exact hcell k hlt
        have hf := ho.frozenAt k
        have hst := ho.stored k (.int .i64 (zs.getD k 0))
        have hold : ∃ u, wr.cell? ⟨w.heap.size, k, none⟩ = some u := by
          have := ho.cellAt k (by omega)
          rw [this]
          exact ⟨_, List.getElem?_eq_getElem (by simp; omega)⟩
        obtain ⟨u, hu⟩ := hold
        have R : (wr.setCell ⟨w.heap.size, k, none⟩ (.int .i64 (zs.getD k 0))).ownsRow w.heap.size 3 1 (.slice (some ⟨w.heap.size, 0, none⟩) len len) len ((zs.take (k + 1) ++ List.replicate (len - (k + 1)) (0 : Int)).map (Value.int .i64)) := by
          have := hst.1
          rw [← List.map_set, set_step zs len k hlt hl] at this
          exact this
        have hb1 : Below w.heap.size w (wr.setCell ⟨w.heap.size, k, none⟩ (.int .i64 (zs.getD k 0))) := hbel.setCell (Nat.le_refl _) _
        clear hst ho
        generalize zs.getD k 0 = x at hc R hb1
        go_wp2
        go_roundw
        case rel => exact ⟨k + 1, by omega, by go_num, R, hb1⟩
        case measure => simp [intOf]; omega
      · obtain rfl : k = len := by omega
        go_wp2
        go_ret
        refine ⟨rfl, ?_, hbel⟩
        have e : zs.take k ++ List.replicate (k - k) (0 : Int) = zs := by rw [Nat.sub_self]; simp [List.take_of_length_le (Nat.le_of_eq hl)]
        rw [e] at ho
        exact ho
end Go.Proofs.YtmhngodbnoonhaaDoor


/-
  A state in memory of its own; toVm: a copy of a state, in memory of its own.
-/
namespace Go.Proofs.YtmhngodbnoonhaaDoor
open Go.RowKit

/-- A row of integers of one's own. -/
def OwnI (w : World) (B : Nat) (s : Sl) (zs : List Int) : Prop := w.ownsRow B 3 1 (.slice s.1 s.2.1 s.2.2) s.2.1 (zs.map (Value.int .i64))
/-- Two slices lie in two blocks. -/
def Apart (s s' : Sl) : Prop := ∀ g, (Value.slice s.1 s.2.1 s.2.2).ownBlock = some g → (Value.slice s'.1 s'.2.1 s'.2.2).ownBlock ≠ some g
/-- A state in memory of its own. -/
def OwnV (w : World) (B : Nat) (s : S4) (m : V4) : Prop :=
  (OwnI w B s.1 m.1 ∧ OwnI w B s.2.1 m.2.1 ∧ OwnI w B s.2.2.1 m.2.2.1 ∧ OwnI w B s.2.2.2 m.2.2.2) ∧
  Apart s.1 s.2.1 ∧ Apart s.1 s.2.2.1 ∧ Apart s.1 s.2.2.2 ∧ Apart s.2.1 s.2.2.1 ∧ Apart s.2.1 s.2.2.2 ∧ Apart s.2.2.1 s.2.2.2
/-- The numbers of a state fit their kind. -/
def V4.fits (m : V4) : Prop := (∀ z ∈ m.1, (Lit.int .i64 z).wf = true) ∧ (∀ z ∈ m.2.1, (Lit.int .i64 z).wf = true) ∧ (∀ z ∈ m.2.2.1, (Lit.int .i64 z).wf = true) ∧ ∀ z ∈ m.2.2.2, (Lit.int .i64 z).wf = true
theorem Vmem.fits {w : World} {s : S4} {m : V4} (h : Vmem w s m) : V4.fits m := ⟨h.1.2, h.2.1.2, h.2.2.1.2, h.2.2.2.2⟩

theorem OwnI.ints {w : World} {B : Nat} {s : Sl} {zs : List Int} (h : OwnI w B s zs) : Ints .i64 w s.1 s.2.1 s.2.2 zs := by
  obtain ⟨a, n, c⟩ := s
  unfold OwnI at h
  simp only at h ⊢
  rcases h.2 with ⟨h0, h1⟩ | ⟨g, cap, cur, hv, _⟩
  · cases h0
    have hl : zs.length = 0 := by simpa using h.1
    exact ⟨hl, Nat.le_refl _, Nat.zero_le _, .inl rfl⟩
  · cases hv
    exact Ints.of_owns h
theorem OwnI.below {w w' : World} {B : Nat} {s : Sl} {zs : List Int} (h : OwnI w B s zs) (hb : Below w.heap.size w w') : OwnI w' B s zs := owns_below h hb
theorem OwnV.below {w w' : World} {B : Nat} {s : S4} {m : V4} (h : OwnV w B s m) (hb : Below w.heap.size w w') : OwnV w' B s m := ⟨⟨h.1.1.below hb, h.1.2.1.below hb, h.1.2.2.1.below hb, h.1.2.2.2.below hb⟩, h.2⟩
theorem OwnV.mem {w : World} {B : Nat} {s : S4} {m : V4} (h : OwnV w B s m) (hf : V4.fits m) : Vmem w s m := ⟨⟨h.1.1.ints, hf.1⟩, ⟨h.1.2.1.ints, hf.2.1⟩, ⟨h.1.2.2.1.ints, hf.2.2.1⟩, ⟨h.1.2.2.2.ints, hf.2.2.2⟩⟩
theorem own_lower {w : World} {B B' e s n : Nat} {v : Value} {cs : List Value} (h : w.ownsRow B e s v n cs) (hB : B' ≤ B) : w.ownsRow B' e s v n cs := by
  refine ⟨h.1, ?_⟩
  rcases h.2 with h0 | ⟨g, cap, cur, hv, hg, rest⟩
  · exact .inl h0
  · exact .inr ⟨g, cap, cur, hv, Nat.le_trans hB hg, rest⟩
theorem off_block {w : World} {B B' e e' s s' n n' c' X : Nat} {v : Value} {xs xs' : List Value} (h : w.ownsRow B e s v n xs) (hX : w.ownsRow B' e' s' (.slice (some ⟨X, 0, none⟩) n' c') n' xs') (he : e ≠ e') : v.ownBlock ≠ some X := by
  rcases owns_ne h hX he with h0 | h0
  · rw [h0]; simp
  · exact h0
theorem box4 (w : World) (x y z u : Value) (t B : Nat) (hB : B ≤ w.heap.size) : (w.alloc (.cells #[x, y, z, u] t)).ownsRow B t 4 (.slice (some ⟨w.heap.size, 0, none⟩) 1 1) 1 [x, y, z, u] := World.ownsRow_lit w #[x, y, z, u] 1 hB (by unfold maxLen; omega) rfl

end Go.Proofs.YtmhngodbnoonhaaDoor


/-
  The laws' helpers that mark a slice of integers and look whether the marks are held: markIntS writes k, k + 1, ... into a slice of the call's own; heldIntS finds them.
-/
namespace Go.Proofs.YtmhngodbnoonhaaDoor
open Go.RowKit

/-- The first j numbers of a list marked, from k on. -/
def mkTo : Int → List Int → Nat → List Int
  | _, xs, 0 => xs
  | _, [], _ + 1 => []
  | k, _ :: xs, j + 1 => k :: mkTo (k + 1) xs j
theorem mkTo_len : ∀ (k : Int) (xs : List Int) (j : Nat), (mkTo k xs j).length = xs.length
  | _, xs, 0 => by simp [mkTo]
  | _, [], _ + 1 => by simp [mkTo]
  | k, _ :: xs, j + 1 => by simp [mkTo, mkTo_len]
theorem mkTo_set : ∀ (k : Int) (xs : List Int) (j : Nat), j < xs.length → (mkTo k xs j).set j (k + j) = mkTo k xs (j + 1)
  | _, [], j, h => by simp at h
  | k, x :: xs, 0, _ => by simp [mkTo]
  | k, x :: xs, j + 1, h => by
    have ih := mkTo_set (k + 1) xs j (by simpa using h)
    have e : k + ((j + 1 : Nat) : Int) = k + 1 + (j : Int) := by omega
    rw [e]
    simp only [mkTo, List.set_cons_succ, ih]
theorem mkTo_get : ∀ (k : Int) (xs : List Int) (j i : Nat), i < j → j ≤ xs.length → (mkTo k xs j).getD i 0 = k + i
  | _, xs, 0, i, h, _ => by omega
  | _, [], j + 1, i, _, h => by simp at h
  | k, x :: xs, j + 1, 0, _, _ => by simp [mkTo]
  | k, x :: xs, j + 1, i + 1, h, hl => by
    have ih := mkTo_get (k + 1) xs j i (by omega) (by simpa using hl)
    have e : k + ((i + 1 : Nat) : Int) = k + 1 + (i : Int) := by omega
    rw [e, ← ih]
    simp [mkTo]

set_option maxHeartbeats 1000000 in
set_option maxRecDepth 100000 in
theorem markIntS_own (base g n cap : Nat) (k : Int) (xs : List Int) (w : World) (hk0 : 0 ≤ k) (hk : k ≤ 1000000000) (hn : n ≤ 1048576) (ho : w.ownsRow base 3 1 (.slice (some ⟨g, 0, none⟩) n cap) n (xs.map (Value.int .i64))) :
    Calls Tryd.prog 36 #[.slice (some ⟨g, 0, none⟩) n cap, .int .i64 k] w fun e w' => e = .returned (.int .i64 (k + n)) ∧
      w'.ownsRow base 3 1 (.slice (some ⟨g, 0, none⟩) n cap) n ((mkTo k xs n).map (Value.int .i64)) ∧ Below base w w' := by
  have hlen : xs.length = n := by simpa using ho.1
  have hbg := (ho.lt g rfl).1
  go_enter Tryd.func36, Tryd.ntmps36
  go_wp2
  go_loopw [1, 5] (fun sk si wr => ∃ j : Nat, j ≤ n ∧ si = .int .i64 j ∧ sk = .int .i64 (k + j) ∧ wr.ownsRow base 3 1 (.slice (some ⟨g, 0, none⟩) n cap) n ((mkTo k xs j).map (Value.int .i64)) ∧ Below base w wr) (fun _ si _ => n - (intOf si).toNat)
  case atStart => exact ⟨0, by omega, rfl, by go_num, by simpa [mkTo] using ho, Below.refl _ _⟩
  case round =>
    obtain ⟨j, hj, rfl, rfl, hr, hbel⟩ := hrel
    by_cases hlt : j < n
    · have hf := hr.frozenAt j
      have hst := (hr.stored j (.int .i64 (k + j))).1
      rw [← List.map_set, mkTo_set k xs j (by omega)] at hst
      have hold : ∃ u, wr.cell? ⟨g, j, none⟩ = some u := by
        have := hr.cellAt j (by omega)
        rw [this]
        exact ⟨_, List.getElem?_eq_getElem (by simp [mkTo_len]; omega)⟩
      obtain ⟨u, hu⟩ := hold
      have hb1 : Below base w (wr.setCell ⟨g, j, none⟩ (.int .i64 (k + j))) := hbel.setCell hbg _
      clear hr ho
      go_wp2
      go_roundw
      case rel => exact ⟨j + 1, by omega, by go_num, by go_num, hst, hb1⟩
      case measure => simp [intOf]; omega
    · obtain rfl : j = n := by omega
      go_wp2
      go_ret
      exact ⟨rfl, hr, hbel⟩

theorem markIntS_none (a : Option Addr) (cap : Nat) (k : Int) (w : World) :
    Calls Tryd.prog 36 #[.slice a 0 cap, .int .i64 k] w fun e w' => e = .returned (.int .i64 k) ∧ w = w' := by
  go_enter Tryd.func36, Tryd.ntmps36
  go_wp2
  refine wp_loop_rounds 1 ?_
  rw [rounds_succ]
  go_wp2
  go_ret
  exact ⟨rfl, rfl⟩

set_option maxHeartbeats 1000000 in
set_option maxRecDepth 100000 in
theorem heldIntS_yes (a : Option Addr) (n cap : Nat) (k : Int) (zs : List Int) (w : World) (hk0 : 0 ≤ k) (hk : k ≤ 1000000000) (hn : n ≤ 1048576) (h : Ints .i64 w a n cap zs) (hm : ∀ i, i < n → zs.getD i 0 = k + i) :
    Calls Tryd.prog 44 #[.slice a n cap, .int .i64 k] w fun e w' => e = .returned (.int .i64 (k + n)) ∧ w = w' := by
  obtain ⟨hl, hlc, hcm, hcase⟩ := h
  unfold maxLen at hcm
  by_cases h0 : n = 0
  · subst h0
    have e0 : k + ((0 : Nat) : Int) = k := by omega
    rw [e0]
    go_enter Tryd.func44, Tryd.ntmps44
    go_wp2
    refine wp_loop_rounds 1 ?_
    rw [rounds_succ]
    go_wp2
    go_ret
    exact ⟨rfl, rfl⟩
  · rcases hcase with h0' | ⟨b, off, rfl, hblt, hcell⟩
    · exact absurd h0' h0
    go_enter Tryd.func44, Tryd.ntmps44
    go_wp2
    go_loop [1, 5] (fun sk si => ∃ j : Nat, j ≤ n ∧ si = .int .i64 j ∧ sk = .int .i64 (k + j)) (fun _ si => n - (intOf si).toNat)
    case atStart => exact ⟨0, by omega, rfl, by go_num⟩
    case round =>
      obtain ⟨j, hj, rfl, rfl⟩ := hrel
      by_cases hlt : j < n
      · have hc := hcell j hlt
        rw [hm j hlt] at hc
        have hne : ((k + (j : Int)) != (k + (j : Int))) = false := by simp
        clear hcell hm
        go_wp2
        go_round
        case rel => exact ⟨j + 1, by omega, by go_num, by go_num⟩
        case measure => simp [intOf]; omega
      · obtain rfl : j = n := by omega
        go_wp2
        go_ret
        exact ⟨rfl, rfl⟩
end Go.Proofs.YtmhngodbnoonhaaDoor


/-
  The laws' helpers that mark a state in memory of its own and look whether the marks are held: markVm, heldVm.
-/
namespace Go.Proofs.YtmhngodbnoonhaaDoor
open Go.RowKit

theorem Sl.some_or {w : World} {B : Nat} {s : Sl} {zs : List Int} (h : OwnI w B s zs) : (s = (none, 0, 0) ∧ zs = []) ∨ ∃ g n c, s = (some ⟨g, 0, none⟩, n, c) := by
  obtain ⟨a, n, c⟩ := s
  unfold OwnI at h
  simp only at h
  rcases h.2 with ⟨h0, h1⟩ | ⟨g, cap, cur, hv, _⟩
  · cases h0
    exact .inl ⟨rfl, by simpa using h.1⟩
  · cases hv
    exact .inr ⟨g, n, c, rfl⟩

set_option maxHeartbeats 1000000 in
set_option maxRecDepth 100000 in
theorem markIntS_grown0 (base g n cap : Nat) (k : Int) (xs : List Int) (w : World) (hk0 : 0 ≤ k) (hk : k ≤ 1000000000) (hn : n ≤ 1048576) (ho : w.ownsRow base 3 1 (.slice (some ⟨g, 0, none⟩) n cap) n (xs.map (Value.int .i64))) :
    Calls Tryd.prog 36 #[.slice (some ⟨g, 0, none⟩) n cap, .int .i64 k] w fun e w' => e = .returned (.int .i64 (k + n)) ∧
      w'.ownsRow base 3 1 (.slice (some ⟨g, 0, none⟩) n cap) n ((mkTo k xs n).map (Value.int .i64)) ∧ w.grownBy w' (some g) := by
  have hlen : xs.length = n := by simpa using ho.1
  go_enter Tryd.func36, Tryd.ntmps36
  go_wp2
  go_loopw [1, 5] (fun sk si wr => ∃ j : Nat, j ≤ n ∧ si = .int .i64 j ∧ sk = .int .i64 (k + j) ∧ wr.ownsRow base 3 1 (.slice (some ⟨g, 0, none⟩) n cap) n ((mkTo k xs j).map (Value.int .i64)) ∧ w.grownBy wr (some g)) (fun _ si _ => n - (intOf si).toNat)
  case atStart => exact ⟨0, by omega, rfl, by go_num, by simpa [mkTo] using ho, World.grownBy.refl _ _⟩
  case round =>
    obtain ⟨j, hj, rfl, rfl, hr, hbel⟩ := hrel
    by_cases hlt : j < n
    · have hf := hr.frozenAt j
      have hst := (hr.stored j (.int .i64 (k + j))).1
      rw [← List.map_set, mkTo_set k xs j (by omega)] at hst
      have hold : ∃ u, wr.cell? ⟨g, j, none⟩ = some u := by
        have := hr.cellAt j (by omega)
        rw [this]
        exact ⟨_, List.getElem?_eq_getElem (by simp [mkTo_len]; omega)⟩
      obtain ⟨u, hu⟩ := hold
      have hb1 := grownBy_tr hbel (grownBy_set wr g j (.int .i64 (k + j)))
      clear hr ho
      go_wp2
      go_roundw
      case rel => exact ⟨j + 1, by omega, by go_num, by go_num, hst, hb1⟩
      case measure => simp [intOf]; omega
    · obtain rfl : j = n := by omega
      go_wp2
      go_ret
      exact ⟨rfl, hr, hbel⟩

theorem markIntS_grown (B : Nat) (s : Sl) (k : Int) (xs : List Int) (w : World) (hk0 : 0 ≤ k) (hk : k ≤ 1000000000) (hn : s.2.1 ≤ 1048576) (ho : OwnI w B s xs) :
    Calls Tryd.prog 36 #[.slice s.1 s.2.1 s.2.2, .int .i64 k] w fun e w' => e = .returned (.int .i64 (k + s.2.1)) ∧ OwnI w' B s (mkTo k xs s.2.1) ∧ w.grownBy w' (Value.slice s.1 s.2.1 s.2.2).ownBlock := by
  rcases Sl.some_or ho with ⟨rfl, rfl⟩ | ⟨g, n, c, rfl⟩
  · refine (markIntS_none none 0 k w).mono ?_
    rintro e w' ⟨rfl, rfl⟩
    exact ⟨by simp, ho, World.grownBy.refl _ _⟩
  · exact markIntS_grown0 B g n c k xs w hk0 hk hn ho

/-- Only blocks of these four slices were turned. -/
def KeptOff (s : S4) (w w' : World) : Prop := ∀ j, j < w.heap.size → (Value.slice s.1.1 s.1.2.1 s.1.2.2).ownBlock ≠ some j → (Value.slice s.2.1.1 s.2.1.2.1 s.2.1.2.2).ownBlock ≠ some j → (Value.slice s.2.2.1.1 s.2.2.1.2.1 s.2.2.1.2.2).ownBlock ≠ some j → (Value.slice s.2.2.2.1 s.2.2.2.2.1 s.2.2.2.2.2).ownBlock ≠ some j → w'.heap[j]? = w.heap[j]?

/-- A state with all its numbers marked, from k on. -/
def mkV (k : Int) (m : V4) : V4 :=
  (mkTo k m.1 m.1.length, mkTo (k + m.1.length) m.2.1 m.2.1.length, mkTo (k + m.1.length + m.2.1.length) m.2.2.1 m.2.2.1.length, mkTo (k + m.1.length + m.2.1.length + m.2.2.1.length) m.2.2.2 m.2.2.2.length)
def cntV (m : V4) : Int := (m.1.length : Int) + m.2.1.length + m.2.2.1.length + m.2.2.2.length

theorem OwnI.len {w : World} {B : Nat} {s : Sl} {zs : List Int} (h : OwnI w B s zs) : zs.length = s.2.1 := by
  have := h.1
  simpa using this
theorem OwnI.kept {w w' : World} {B : Nat} {s s' : Sl} {zs : List Int} (h : OwnI w B s zs) (hg : w.grownBy w' (Value.slice s'.1 s'.2.1 s'.2.2).ownBlock) (ha : Apart s s') : OwnI w' B s zs := by
  refine World.ownsRow.kept h hg ?_
  cases hb : (Value.slice s.1 s.2.1 s.2.2).ownBlock with
  | none => exact .inl rfl
  | some g => exact .inr fun e => ha g hb e.symm
theorem Apart.symm {s s' : Sl} (h : Apart s s') : Apart s' s := fun g h1 h2 => h g h2 h1

theorem Hid.mk9 {p : Prop} (h : p) : Hid p := h

/-- All numbers of a state are marks, from k on. -/
def Marked (k : Int) (m : V4) : Prop := (∀ i, i < m.1.length → m.1.getD i 0 = k + i) ∧ (∀ i, i < m.2.1.length → m.2.1.getD i 0 = k + m.1.length + i) ∧ (∀ i, i < m.2.2.1.length → m.2.2.1.getD i 0 = k + m.1.length + m.2.1.length + i) ∧ ∀ i, i < m.2.2.2.length → m.2.2.2.getD i 0 = k + m.1.length + m.2.1.length + m.2.2.1.length + i
theorem marked_mkV (k : Int) (m : V4) : Marked k (mkV k m) := by
  unfold Marked mkV
  simp only [mkTo_len]
  exact ⟨fun i hi => mkTo_get _ _ _ i hi (Nat.le_refl _), fun i hi => mkTo_get _ _ _ i hi (Nat.le_refl _), fun i hi => mkTo_get _ _ _ i hi (Nat.le_refl _), fun i hi => mkTo_get _ _ _ i hi (Nat.le_refl _)⟩
theorem cnt_mkV (k : Int) (m : V4) : cntV (mkV k m) = cntV m := by
  unfold cntV mkV
  simp only [mkTo_len]

end Go.Proofs.YtmhngodbnoonhaaDoor


/-
  l01In: a number in its bounds.
-/
namespace Go.Proofs.YtmhngodbnoonhaaDoor
open Go.RowKit

theorem l01In_yes (n a b : Int) (w : World) (h : a ≤ n ∧ n ≤ b) : Calls Tryd.prog 97 #[.int .i64 n, .int .i64 a, .int .i64 b] w fun e w' => e = .returned (.bool true) ∧ w = w' := by
  obtain ⟨h1, h2⟩ := h
  go_enter Tryd.func97, Tryd.ntmps97
  go_wp2
  go_ret
  exact ⟨rfl, rfl⟩
theorem l01In_no (n a b : Int) (w : World) (h : ¬ (a ≤ n ∧ n ≤ b)) : Calls Tryd.prog 97 #[.int .i64 n, .int .i64 a, .int .i64 b] w fun e w' => e = .returned (.bool false) ∧ w = w' := by
  by_cases h1 : a ≤ n
  · have h2 : decide (n ≤ b) = false := by simp; omega
    clear h
    go_enter Tryd.func97, Tryd.ntmps97
    go_wp2
    go_ret
    exact ⟨rfl, rfl⟩
  · clear h
    go_enter Tryd.func97, Tryd.ntmps97
    go_wp2
    go_ret
    exact ⟨rfl, rfl⟩

end Go.Proofs.YtmhngodbnoonhaaDoor


/-
  Operands: what each kind of an instruction's number may be (impl's methods right), and how an operand's method is found.
-/
namespace Go.Proofs.YtmhngodbnoonhaaDoor
open Go.RowKit

/-- A number from a to b. -/
def inB (n a b : Int) : Bool := decide (a ≤ n ∧ n ≤ b)

theorem inB_true {n a b : Int} : inB n a b = true ↔ a ≤ n ∧ n ≤ b := by simp [inB]
theorem inB_false {n a b : Int} : inB n a b = false ↔ ¬ (a ≤ n ∧ n ≤ b) := by simp only [inB, decide_eq_false_iff_not]


theorem meth_register (v : Value) (w : World) : (Go.method 329 189 v "loop.example/g00632/impl.right").run Tryd.prog w = .ok (174, v) w := by kernel_rfl

set_option maxHeartbeats 1000000 in
set_option maxRecDepth 100000 in
theorem right_register (n : Int) (w : World) : Calls Tryd.prog 174 #[.int .i64 n] w fun e w' => e = .returned (.bool (inB n 0 1)) ∧ w = w' := by
  cases h : inB n 0 1
  · rw [inB_false] at h
    by_cases h1 : 0 ≤ n
    · have h2 : decide (n < 2) = false := by simp; omega
      clear h
      go_enter Tryd.func174, Tryd.ntmps174
      go_wp2
      go_ret
      exact ⟨rfl, rfl⟩
    · clear h
      go_enter Tryd.func174, Tryd.ntmps174
      go_wp2
      go_ret
      exact ⟨rfl, rfl⟩
  · rw [inB_true] at h
    obtain ⟨h1, h3⟩ := h
    have h2 : decide (n < 2) = true := by simp; omega
    clear h3
    go_enter Tryd.func174, Tryd.ntmps174
    go_wp2
    go_ret
    exact ⟨by simp_all, rfl⟩


theorem meth_shared (v : Value) (w : World) : (Go.method 329 190 v "loop.example/g00632/impl.right").run Tryd.prog w = .ok (175, v) w := by kernel_rfl

set_option maxHeartbeats 1000000 in
set_option maxRecDepth 100000 in
theorem right_shared (n : Int) (w : World) : Calls Tryd.prog 175 #[.int .i64 n] w fun e w' => e = .returned (.bool (inB n 0 3)) ∧ w = w' := by
  cases h : inB n 0 3
  · rw [inB_false] at h
    by_cases h1 : 0 ≤ n
    · have h2 : decide (n < 4) = false := by simp; omega
      clear h
      go_enter Tryd.func175, Tryd.ntmps175
      go_wp2
      go_ret
      exact ⟨rfl, rfl⟩
    · clear h
      go_enter Tryd.func175, Tryd.ntmps175
      go_wp2
      go_ret
      exact ⟨rfl, rfl⟩
  · rw [inB_true] at h
    obtain ⟨h1, h3⟩ := h
    have h2 : decide (n < 4) = true := by simp; omega
    clear h3
    go_enter Tryd.func175, Tryd.ntmps175
    go_wp2
    go_ret
    exact ⟨by simp_all, rfl⟩


theorem meth_lock (v : Value) (w : World) : (Go.method 329 192 v "loop.example/g00632/impl.right").run Tryd.prog w = .ok (177, v) w := by kernel_rfl

set_option maxHeartbeats 1000000 in
set_option maxRecDepth 100000 in
theorem right_lock (n : Int) (w : World) : Calls Tryd.prog 177 #[.int .i64 n] w fun e w' => e = .returned (.bool (inB n 0 1)) ∧ w = w' := by
  cases h : inB n 0 1
  · rw [inB_false] at h
    by_cases h1 : 0 ≤ n
    · have h2 : decide (n < 2) = false := by simp; omega
      clear h
      go_enter Tryd.func177, Tryd.ntmps177
      go_wp2
      go_ret
      exact ⟨rfl, rfl⟩
    · clear h
      go_enter Tryd.func177, Tryd.ntmps177
      go_wp2
      go_ret
      exact ⟨rfl, rfl⟩
  · rw [inB_true] at h
    obtain ⟨h1, h3⟩ := h
    have h2 : decide (n < 2) = true := by simp; omega
    clear h3
    go_enter Tryd.func177, Tryd.ntmps177
    go_wp2
    go_ret
    exact ⟨by simp_all, rfl⟩


theorem meth_value (v : Value) (w : World) : (Go.method 329 191 v "loop.example/g00632/impl.right").run Tryd.prog w = .ok (176, v) w := by kernel_rfl

set_option maxHeartbeats 1000000 in
set_option maxRecDepth 100000 in
theorem right_value (n : Int) (w : World) : Calls Tryd.prog 176 #[.int .i64 n] w fun e w' => e = .returned (.bool (inB n 0 9)) ∧ w = w' := by
  cases h : inB n 0 9
  · rw [inB_false] at h
    by_cases h1 : 0 ≤ n
    · have h2 : decide (n ≤ 9) = false := by simp; omega
      clear h
      go_enter Tryd.func176, Tryd.ntmps176
      go_wp2
      go_ret
      exact ⟨rfl, rfl⟩
    · clear h
      go_enter Tryd.func176, Tryd.ntmps176
      go_wp2
      go_ret
      exact ⟨rfl, rfl⟩
  · rw [inB_true] at h
    obtain ⟨h1, h3⟩ := h
    have h2 : decide (n ≤ 9) = true := by simp; omega
    clear h3
    go_enter Tryd.func176, Tryd.ntmps176
    go_wp2
    go_ret
    exact ⟨by simp_all, rfl⟩


theorem meth_target (v : Value) (w : World) : (Go.method 329 177 v "loop.example/g00632/impl.right").run Tryd.prog w = .ok (173, v) w := by kernel_rfl

set_option maxHeartbeats 1000000 in
set_option maxRecDepth 100000 in
theorem right_target (n : Int) (w : World) : Calls Tryd.prog 173 #[.int .i64 n] w fun e w' => e = .returned (.bool (inB n 1 6)) ∧ w = w' := by
  cases h : inB n 1 6
  · rw [inB_false] at h
    by_cases h1 : 1 ≤ n
    · have h2 : decide (n ≤ 6) = false := by simp; omega
      clear h
      go_enter Tryd.func173, Tryd.ntmps173
      go_wp2
      go_ret
      exact ⟨rfl, rfl⟩
    · clear h
      go_enter Tryd.func173, Tryd.ntmps173
      go_wp2
      go_ret
      exact ⟨rfl, rfl⟩
  · rw [inB_true] at h
    obtain ⟨h1, h3⟩ := h
    have h2 : decide (n ≤ 6) = true := by simp; omega
    clear h3
    go_enter Tryd.func173, Tryd.ntmps173
    go_wp2
    go_ret
    exact ⟨by simp_all, rfl⟩


theorem meth_no (v : Value) (w : World) : (Go.method 329 193 v "loop.example/g00632/impl.right").run Tryd.prog w = .ok (178, v) w := by kernel_rfl

set_option maxHeartbeats 1000000 in
set_option maxRecDepth 100000 in
theorem right_no (n : Int) (w : World) : Calls Tryd.prog 178 #[.int .i64 n] w fun e w' => e = .returned (.bool (inB n 0 0)) ∧ w = w' := by
  go_enter Tryd.func178, Tryd.ntmps178
  go_wp2
  go_ret
  refine ⟨?_, rfl⟩
  cases h : inB n 0 0
  · rw [inB_false] at h
    have h2 : (n == 0) = false := by simp; omega
    simp [h2]
  · rw [inB_true] at h
    have h2 : (n == 0) = true := by simp; omega
    simp [h2]

end Go.Proofs.YtmhngodbnoonhaaDoor
