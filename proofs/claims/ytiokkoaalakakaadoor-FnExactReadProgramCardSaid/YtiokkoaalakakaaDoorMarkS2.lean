/-
  Slices of strings marked: what is no row of strings is as it was.
-/
import Derived.Test.YtiokkoaalakakaaDoorMarkS
import Derived.Test.YtiokkoaalakakaaDoorMarkP
namespace Go.Proofs.YtiokkoaalakakaaDoor
open Go.RowKit

set_option maxHeartbeats 1000000 in
set_option maxRecDepth 100000 in
theorem markStringS_own2 (base g n cap k : Nat) (xs : List ByteArray) (w : World) (hk0 : 0 < k) (hk : k ≤ 100000000) (hn : n ≤ 1048576) (ho : w.ownsRow base 9 1 (.slice (some ⟨g, 0, none⟩) n cap) n (xs.map Value.string)) :
    Calls Tryd.prog 21 #[.slice (some ⟨g, 0, none⟩) n cap, .int .i64 k] w fun e w' => e = .returned (.int .i64 (k + n)) ∧
      w'.ownsRow base 9 1 (.slice (some ⟨g, 0, none⟩) n cap) n ((mkTS k xs n).map Value.string) ∧ KeptBut 9 w w' ∧ Below base w w' := by
  have hlen : xs.length = n := by simpa using ho.1
  have hbg := (ho.lt g rfl).1
  go_enter Tryd.func21, Tryd.ntmps21
  go_wp2
  go_loopw [1, 5] (fun sk si wr => ∃ j m : Nat, j ≤ n ∧ Hid (m = k + j) ∧ si = .int .i64 j ∧ sk = .int .i64 m ∧ wr.ownsRow base 9 1 (.slice (some ⟨g, 0, none⟩) n cap) n ((mkTS k xs j).map Value.string) ∧ KeptBut 9 w wr ∧ Below base w wr) (fun _ si _ => n - (intOf si).toNat)
  case atStart => exact ⟨0, k, by omega, rfl, rfl, rfl, by simpa [mkTS] using ho, KeptBut.refl _ _, Below.refl _ _⟩
  case round =>
    obtain ⟨j, m, hj, hm, rfl, rfl, hr, hKB, hbel⟩ := hrel
    by_cases hlt : j < n
    · have hlt2 : (j : Int) < (n : Int) := by omega
      have hj0 : (0 : Int) ≤ (j : Int) := by omega
      have hm0 : 0 < m := by have := hm.out; omega
      have hm1 : m ≤ 1000000000 := by have := hm.out; omega
      have hset := mkTS_set k xs j (by omega)
      rw [← hm.out] at hset
      have hsz := (hr.lt g rfl).2
      go_wp2_with fail
      refine (markText_is m _ hm0 hm1).mono ?_
      rintro e w1 ⟨rfl, hb1⟩
      have hr1 := owns_below hr hb1
      have hbel1 : Below base w w1 := hbel.trans (hb1.mono (by omega))
      have hKB1 := hKB.trans (KeptBut.of_below hb1)
      clear hr hbel hb1 hKB
      have hf := hr1.frozenAt j
      have hst := (hr1.stored j (.string (markB m))).1
      rw [← List.map_set, hset] at hst
      obtain ⟨u, hu⟩ : ∃ u, w1.cell? ⟨g, j, none⟩ = some u := by
        have := hr1.cellAt j (by omega)
        rw [this]
        exact ⟨_, List.getElem?_eq_getElem (by simp [mkTS_len]; omega)⟩
      have hb2 : Below base w (w1.setCell ⟨g, j, none⟩ (.string (markB m))) := hbel1.setCell hbg _
      have hKB2 : KeptBut 9 w (w1.setCell ⟨g, j, none⟩ (.string (markB m))) := hKB1.trans (KeptBut.of_grown (v := .slice (some ⟨g, 0, none⟩) n cap) (grownBy_set w1 g j _) hr1)
      clear hr1 ho hset hbel1 hKB1
      generalize markB m = tx at hst hb2 hKB2
      go_wp2
      go_roundw
      case rel => exact ⟨j + 1, m + 1, by omega, by have := hm.out; rw [Hid]; omega, by go_num, by go_num, hst, hKB2, hb2⟩
      case measure => simp [intOf]; omega
    · obtain rfl : j = n := by omega
      go_wp2
      go_ret
      refine ⟨?_, hr, hKB, hbel⟩
      rw [hm.out]
      simp

theorem markStringS_any2 (base : Nat) (a : Option Addr) (n cap k : Nat) (xs : List ByteArray) (w : World) (hk0 : 0 < k) (hk : k ≤ 100000000) (hn : n ≤ 1048576) (h : OwnT base w a n cap xs) :
    Calls Tryd.prog 21 #[.slice a n cap, .int .i64 k] w fun e w' => e = .returned (.int .i64 (k + n)) ∧ KeptBut 9 w w' ∧ Below base w w' := by
  obtain ⟨h1, h2, h3, h4⟩ := h
  rcases h4 with rfl | ⟨g, rfl, h4⟩
  · refine (markStringS_none a cap k w).mono ?_
    rintro e w' ⟨rfl, rfl⟩
    exact ⟨by simp, KeptBut.refl _ _, Below.refl _ _⟩
  · refine (markStringS_own2 base g n cap k xs w hk0 hk hn h4).mono ?_
    rintro e w' ⟨rfl, _, hK, hb⟩
    exact ⟨rfl, hK, hb⟩
theorem OwnProg.but {t : TypeId} {w w' : World} {B : Nat} {v : Value} {rows : List (List I3)} (h : OwnProg w B v rows) (hk : KeptBut t w w') (h1 : 66 ≠ t) (h2 : 26 ≠ t) : OwnProg w' B v rows := by
  obtain ⟨vs, a1, a2, a3, a4⟩ := h
  exact ⟨vs, hk.owns a1 h1, a2, fun i hi => hk.owns (a3 i hi) h2, a4⟩
end Go.Proofs.YtiokkoaalakakaaDoor
