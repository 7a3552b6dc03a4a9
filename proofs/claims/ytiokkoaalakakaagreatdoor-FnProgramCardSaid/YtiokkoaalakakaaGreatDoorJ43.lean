/-
  FnProgram, part 43 of 50 (ProgText).
-/
import Derived.Test.YtiokkoaalakakaaGreatDoorJ42

/-
  ProgramText: the program's and the specification's answer the same lines and the same code, in memory of their own.
-/
namespace Go.Proofs.YtiokkoaalakakaaGreatDoor
open Go.RowKit

set_option maxHeartbeats 1000000 in
set_option maxRecDepth 100000 in
theorem specText_ok (a : Option Addr) (len cap : Nat) (rows : List (List I3)) (w : World) (h : Codes w a len cap rows) (hok : progOk rows = true) :
    Calls Tryz.prog 6 #[.agg #[.slice a len cap]] w fun e w' => ∃ v, e = .returned (.tuple #[v, .int .i64 0]) ∧ w'.ownsRow w.heap.size 9 1 v (linesTo rows 3).length ((linesTo rows 3).map Value.string) ∧ Below w.heap.size w w' := by
  have k := specProgramOK_is a len cap rows
  rw [hok] at k
  have k2 := fun w h => l02Lines_ok a len cap rows w h hok
  go_enter Tryz.func6, Tryz.ntmps6
  go_wp2_with fail
  refine (k _ (h.below (by go_grown))).mono ?_
  rintro e w1 ⟨rfl, hb1⟩
  have cP : w1.cell? ⟨w.heap.size, 0, none⟩ = some (.slice a len cap) := by rw [hb1.cell (by simp)]; simp [go_sem]
  have b1 : Below w.heap.size w w1 := bel_trans (by go_grown) hb1
  clear hb1 k hok
  go_wp2_with fail
  refine (k2 _ (h.below b1)).mono ?_
  rintro e w2 ⟨v, rfl, ho, hb2⟩
  have b2 := bel_trans b1 hb2
  have ho2 := owns_mono ho b1.size
  clear hb2 b1 k2 h cP ho
  go_wp2
  go_ret2
  exact ⟨_, rfl, ho2, b2⟩

set_option maxHeartbeats 1000000 in
set_option maxRecDepth 100000 in
theorem specText_bad (a : Option Addr) (len cap : Nat) (rows : List (List I3)) (w : World) (h : Codes w a len cap rows) (hok : progOk rows = false) :
    Calls Tryz.prog 6 #[.agg #[.slice a len cap]] w fun e w' => ∃ v, e = .returned (.tuple #[v, .int .i64 1]) ∧ w'.ownsRow w.heap.size 9 1 v ([] : List ByteArray).length (([] : List ByteArray).map Value.string) ∧ Below w.heap.size w w' := by
  have k := specProgramOK_is a len cap rows
  rw [hok] at k
  go_enter Tryz.func6, Tryz.ntmps6
  go_wp2_with fail
  refine (k _ (h.below (by go_grown))).mono ?_
  rintro e w1 ⟨rfl, hb1⟩
  have b1 : Below w.heap.size w w1 := bel_trans (by go_grown) hb1
  have hs := owns_none w1 9
  have hb : Below w.heap.size w (w1.alloc (.cells #[] 9)) := bel_trans b1 (by go_grown)
  clear hb1 k h
  go_wp2
  go_ret2
  exact ⟨_, rfl, owns_mono hs b1.size, hb⟩

set_option maxHeartbeats 1000000 in
set_option maxRecDepth 100000 in
theorem implText_ok (a : Option Addr) (len cap : Nat) (rows : List (List I3)) (w : World) (h : Codes w a len cap rows) (hok : progOk rows = true) (hT : OpTable w) :
    Calls Tryz.prog 5 #[.agg #[.slice a len cap]] w fun e w' => ∃ v, e = .returned (.tuple #[v, .int .i64 0]) ∧ w'.ownsRow w.heap.size 9 1 v (linesTo rows 3).length ((linesTo rows 3).map Value.string) ∧ Below w.heap.size w w' := by
  have k := implProgramOK_is a len cap rows
  rw [hok] at k
  have k2 := fun w h => linesOf_ok a len cap rows w h hok
  go_enter Tryz.func5, Tryz.ntmps5
  go_wp2_with fail
  refine (k _ (h.below (by go_grown))).mono ?_
  rintro e w1 ⟨rfl, hb1⟩
  have cP : w1.cell? ⟨w.heap.size, 0, none⟩ = some (.slice a len cap) := by rw [hb1.cell (by simp)]; simp [go_sem]
  have b1 : Below w.heap.size w w1 := bel_trans (by go_grown) hb1
  clear hb1 k hok
  go_wp2_with fail
  refine (k2 _ (h.below b1) (hT.below b1)).mono ?_
  rintro e w2 ⟨v, rfl, ho, hb2⟩
  have b2 := bel_trans b1 hb2
  have ho2 := owns_mono ho b1.size
  clear hb2 b1 k2 h cP ho hT
  go_wp2
  go_ret2
  exact ⟨_, rfl, ho2, b2⟩

set_option maxHeartbeats 1000000 in
set_option maxRecDepth 100000 in
theorem implText_bad (a : Option Addr) (len cap : Nat) (rows : List (List I3)) (w : World) (h : Codes w a len cap rows) (hok : progOk rows = false) :
    Calls Tryz.prog 5 #[.agg #[.slice a len cap]] w fun e w' => ∃ v, e = .returned (.tuple #[v, .int .i64 1]) ∧ w'.ownsRow w.heap.size 9 1 v ([] : List ByteArray).length (([] : List ByteArray).map Value.string) ∧ Below w.heap.size w w' := by
  have k := implProgramOK_is a len cap rows
  rw [hok] at k
  go_enter Tryz.func5, Tryz.ntmps5
  go_wp2_with fail
  refine (k _ (h.below (by go_grown))).mono ?_
  rintro e w1 ⟨rfl, hb1⟩
  have b1 : Below w.heap.size w w1 := bel_trans (by go_grown) hb1
  clear hb1 k h
  go_wp2
  go_ret2
  exact ⟨_, rfl, World.ownsRow_nil _ _ _ _, b1⟩

/-- Both answer the same lines and one code. -/
theorem progText_pair (rows : List (List I3)) : ∃ (ls : List ByteArray) (c : Int), ls.length ≤ 18 ∧
    (∀ (a : Option Addr) (len cap : Nat) (w : World), Codes w a len cap rows → Calls Tryz.prog 6 #[.agg #[.slice a len cap]] w fun e w' => ∃ v, e = .returned (.tuple #[v, .int .i64 c]) ∧ w'.ownsRow w.heap.size 9 1 v ls.length (ls.map Value.string) ∧ Below w.heap.size w w') ∧
    (∀ (a : Option Addr) (len cap : Nat) (w : World), Codes w a len cap rows → OpTable w → Calls Tryz.prog 5 #[.agg #[.slice a len cap]] w fun e w' => ∃ v, e = .returned (.tuple #[v, .int .i64 c]) ∧ w'.ownsRow w.heap.size 9 1 v ls.length (ls.map Value.string) ∧ Below w.heap.size w w') := by
  cases hok : progOk rows
  · exact ⟨[], _, by simp, fun a len cap w h => specText_bad a len cap rows w h hok, fun a len cap w h _ => implText_bad a len cap rows w h hok⟩
  · obtain ⟨h3, hrows⟩ := progOk_parts hok
    have hr6 : ∀ k, (rows.getD k []).length ≤ 6 := fun k => by
      by_cases hk : k < rows.length
      · exact (hrows _ (by simp [List.getD, hk])).1
      · simp [List.getD, List.getElem?_eq_none (Nat.le_of_not_lt hk)]
    exact ⟨linesTo rows 3, _, linesTo_len rows hr6 3, fun a len cap w h => specText_ok a len cap rows w h hok, fun a len cap w h hT => implText_ok a len cap rows w h hok hT⟩
end Go.Proofs.YtiokkoaalakakaaGreatDoor
