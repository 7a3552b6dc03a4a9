/-
  FnProgram, part 17 of 50 (CodeL).
-/
import Derived.Test.YtiokkoaalakakaaGreatDoorJ13
import Derived.Test.YtiokkoaalakakaaGreatDoorJ15
import Derived.Deep.RegionHeld3

/-
  impl.codeOfList.
-/
namespace Go.Proofs.YtiokkoaalakakaaGreatDoor
open Go.RowKit

set_option maxHeartbeats 1000000 in
set_option maxRecDepth 100000 in
theorem codeOfList_ok (a : Option Addr) (n cap : Nat) (ys : List Int) (w : World) (h : Ints .i64 w a (3 * n) cap ys) (hn : n ≤ 6) :
    Calls Tryz.prog 53 #[.slice a (3 * n : Nat) cap] w fun e w' => e = .returned (.slice (some ⟨w.heap.size, 0, none⟩) n n) ∧
      w'.ownsRow w.heap.size 36 3 (.slice (some ⟨w.heap.size, 0, none⟩) n n) n (flat (triples ys)) ∧ Below w.heap.size w w' := by
  obtain ⟨i0, hi, hz0, hz1, hz2⟩ := info_parts info_instr
  obtain ⟨hl, hlc, hcm, hcase⟩ := h
  unfold maxLen at hcm
  have hxl := triples_length n ys hl
  have hget := fun i => triples_get n ys i hl
  generalize triples ys = xs at hxl hget
  obtain ⟨m, hm⟩ : ∃ m, m = 3 * n := ⟨_, rfl⟩
  rw [← hm] at hl hlc hcase ⊢
  have HM : Hid (m = 3 * n) := hm
  have hdiv : (m : Int).tdiv 3 = (n : Int) := by rw [Int.tdiv_eq_ediv_of_nonneg (by omega)]; omega
  have hm18 : m ≤ 18 := by omega
  clear hm
  go_enter Tryz.func53, Tryz.ntmps53
  go_wp2_with (at_make; refine wpList_make_full _ rfl _ _ 55 rfl w.heap.size 36 i0 (.agg #[.int .i64 0, .int .i64 0, .int .i64 0]) 3 Tryz.underlying55 hi hz0 hz1 _ _ _ _ n rfl rfl (by omega) (by omega) ?b2 ?b3 (Nat.le_refl _) ?_)
  case b2 => rw [hz2]; omega
  case b3 => unfold maxLen; omega
  intro w0 hown0 hgrow0
  have hb0 : Below w.heap.size w w0 := (Below.refl _ _).grown hgrow0 (Nat.le_refl _) (fun k h => by cases h)
  obtain ⟨cs0, hcs0⟩ : ∃ cs0, cs0 = (madeCells #[Value.int .i64 0, .int .i64 0, .int .i64 0] (n * 3)).toList := ⟨_, rfl⟩
  rw [← hcs0] at hown0
  clear hgrow0 hcs0
  go_wp2
  go_loopw [12] (fun si wr => ∃ (k : Nat) (cs : List Value), k ≤ n ∧ si = .int .i64 k ∧ Hid (cs.take (k * 3) = flat (xs.take k)) ∧ wr.ownsRow w.heap.size 36 3 (.slice (some ⟨w.heap.size, 0, none⟩) n n) n cs ∧ Below w.heap.size w wr) (fun si _ => n - (intOf si).toNat)
  case atStart => exact ⟨0, cs0, by omega, rfl, by simp [Hid, flat], hown0, hb0⟩
  case round =>
    obtain ⟨k, cs, hk, rfl, hH, ho, hbel⟩ := hrel
    by_cases hlt : k < n
    · rcases hcase with h0 | ⟨b, off, rfl, hblt, hcell⟩
      · have := HM.out; omega
      have hlt2 : (k : Int) < (n : Int) := by omega
      have hk3 : 3 * k + 3 ≤ m := by have := HM.out; omega
      have g0 := hget k hlt
      have c0 := hcell (3 * k) (by omega)
      have c1 := hcell (3 * k + 1) (by omega)
      have c2 := hcell (3 * k + 2) (by omega)
      have hstep' : Hid (flat (xs.take (k + 1)) = flat (xs.take k) ++ (xs.getD k (0, 0, 0)).cells) := flat_take_succ (by omega)
      rw [g0] at hstep'
      clear hget g0 hcell
      rw [← hbel.cell (p := ⟨b, _, none⟩) hblt] at c0 c1 c2
      generalize ys.getD (3 * k) 0 = x0 at c0 hstep'
      generalize ys.getD (3 * k + 1) 0 = x1 at c1 hstep'
      generalize ys.getD (3 * k + 2) 0 = x2 at c2 hstep'
      have hr3 : 3 ≤ m - 3 * k := by omega
      go_wp2_with fail
      have e1 : off + (3 * k + 1) = off + 3 * k + 1 := by omega
      have e2 : off + (3 * k + 2) = off + 3 * k + 2 := by omega
      rw [e1] at c1
      rw [e2] at c2
      clear e1 e2
      generalize m - 3 * k = r at hr3
      generalize cap - 3 * k = cp
      generalize off + 3 * k = o at c0 c1 c2
      have hr0 : (0 : Int) < (r : Int) := by omega
      have hr1 : (1 : Int) < (r : Int) := by omega
      have hr2 : (2 : Int) < (r : Int) := by omega
      have hlen := ho.1
      have f0 := ho.frozenAt (k * 3)
      have f1 := ho.frozenAt (k * 3 + 1)
      have f2 := ho.frozenAt (k * 3 + 2)
      obtain ⟨u0, hu0⟩ : ∃ u, wr.cell? ⟨w.heap.size, k * 3, none⟩ = some u := ⟨_, by rw [ho.cellAt _ (by omega)]; exact List.getElem?_eq_getElem (by omega)⟩
      obtain ⟨u1, hu1⟩ : ∃ u, wr.cell? ⟨w.heap.size, k * 3 + 1, none⟩ = some u := ⟨_, by rw [ho.cellAt _ (by omega)]; exact List.getElem?_eq_getElem (by omega)⟩
      obtain ⟨u2, hu2⟩ : ∃ u, wr.cell? ⟨w.heap.size, k * 3 + 2, none⟩ = some u := ⟨_, by rw [ho.cellAt _ (by omega)]; exact List.getElem?_eq_getElem (by omega)⟩
      have R := (((ho.stored (k * 3) (.int .i64 x0)).1.stored (k * 3 + 1) (.int .i64 x1)).1.stored (k * 3 + 2) (.int .i64 x2)).1
      have hT : Hid ((((cs.set (k * 3) (.int .i64 x0)).set (k * 3 + 1) (.int .i64 x1)).set (k * 3 + 2) (.int .i64 x2)).take ((k + 1) * 3) = flat (xs.take (k + 1))) := by
        rw [Hid, hstep'.out]
        exact set3_take _ _ _ (by omega) hH.out
      have hb3 : Below w.heap.size w (((wr.setCell ⟨w.heap.size, k * 3, none⟩ (.int .i64 x0)).setCell ⟨w.heap.size, k * 3 + 1, none⟩ (.int .i64 x1)).setCell ⟨w.heap.size, k * 3 + 2, none⟩ (.int .i64 x2)) :=
        ((hbel.setCell (Nat.le_refl _) _).setCell (Nat.le_refl _) _).setCell (Nat.le_refl _) _
      clear hH hstep' ho hbel hlen
      generalize ((cs.set (k * 3) (.int .i64 x0)).set (k * 3 + 1) (.int .i64 x1)).set (k * 3 + 2) (.int .i64 x2) = cs' at R hT
      go_region
      go_wp2
      go_roundw
      case rel => exact ⟨k + 1, cs', by omega, by go_num, hT, R.drew, hb3.drew⟩
      case measure => simp [intOf]; omega
    · obtain rfl : k = n := by omega
      clear hcase
      go_wp2
      go_ret
      have e : cs = flat xs := by
        have h1 := hH.out
        have h2 := ho.1
        rwa [List.take_of_length_le (by omega), List.take_of_length_le (by omega)] at h1
      exact ⟨rfl, by rw [← e]; exact ho, hbel⟩
end Go.Proofs.YtiokkoaalakakaaGreatDoor
