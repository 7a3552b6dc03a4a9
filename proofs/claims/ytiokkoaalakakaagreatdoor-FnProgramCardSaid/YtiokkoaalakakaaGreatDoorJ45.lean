/-
  FnProgram, part 45 of 50 (PackSp).
-/
import Derived.Test.YtiokkoaalakakaaGreatDoorJ44
import Derived.Test.YtiokkoaalakakaaGreatDoorJ40

/-
  spec.PackProgram; both pack the same.
-/
namespace Go.Proofs.YtiokkoaalakakaaGreatDoor
open Go.RowKit

/-- What PackProgram answers. -/
def packed (rows : List (List I3)) : Value := if progOk rows = true then .tuple #[.string (strOfNums (packL (progNums rows))), .int .i64 0] else .tuple #[.string ByteArray.empty, .int .i64 1]

set_option maxHeartbeats 1000000 in
set_option maxRecDepth 100000 in
theorem specPack_ok (a : Option Addr) (len cap : Nat) (rows : List (List I3)) (w : World) (h : Codes w a len cap rows) (hok : progOk rows = true) :
    Calls Tryz.prog 9 #[.agg #[.slice a len cap]] w fun e w' => e = .returned (.tuple #[.string (strOfNums (packL (progNums rows))), .int .i64 0]) ∧ Below w.heap.size w w' := by
  have k := specProgramOK_is a len cap rows
  rw [hok] at k
  have k2 := fun w h => l02Pack_ok a len cap rows w h hok
  generalize strOfNums (packL (progNums rows)) = txt at k2
  go_enter Tryz.func9, Tryz.ntmps9
  go_wp2_with fail
  refine (k _ (h.below (by go_grown))).mono ?_
  rintro e w1 ⟨rfl, hb1⟩
  have cP : w1.cell? ⟨w.heap.size, 0, none⟩ = some (.slice a len cap) := by rw [hb1.cell (by simp)]; simp [go_sem]
  have b1 : Below w.heap.size w w1 := bel_trans (by go_grown) hb1
  clear hb1 k hok
  go_wp2_with fail
  refine (k2 _ (h.below b1)).mono ?_
  rintro e w2 ⟨rfl, hb2⟩
  have b2 := bel_trans b1 hb2
  clear hb2 b1 k2 h cP
  go_wp2
  go_ret2
  exact ⟨rfl, b2⟩

set_option maxHeartbeats 1000000 in
set_option maxRecDepth 100000 in
theorem specPack_bad (a : Option Addr) (len cap : Nat) (rows : List (List I3)) (w : World) (h : Codes w a len cap rows) (hok : progOk rows = false) :
    Calls Tryz.prog 9 #[.agg #[.slice a len cap]] w fun e w' => e = .returned (.tuple #[.string ByteArray.empty, .int .i64 1]) ∧ Below w.heap.size w w' := by
  have k := specProgramOK_is a len cap rows
  rw [hok] at k
  go_enter Tryz.func9, Tryz.ntmps9
  go_wp2_with fail
  refine (k _ (h.below (by go_grown))).mono ?_
  rintro e w1 ⟨rfl, hb1⟩
  have b1 : Below w.heap.size w w1 := bel_trans (by go_grown) hb1
  clear hb1 k h
  go_wp2
  go_ret2
  exact ⟨rfl, b1⟩

/-- Both answer one text and one code. -/
theorem pack_pair (rows : List (List I3)) : ∃ (t : ByteArray) (c : Int), (∀ (a : Option Addr) (len cap : Nat) (w : World), Codes w a len cap rows → Calls Tryz.prog 9 #[.agg #[.slice a len cap]] w fun e w' => e = .returned (.tuple #[.string t, .int .i64 c]) ∧ Below w.heap.size w w') ∧
    (∀ (a : Option Addr) (len cap : Nat) (w : World), Codes w a len cap rows → Calls Tryz.prog 8 #[.agg #[.slice a len cap]] w fun e w' => e = .returned (.tuple #[.string t, .int .i64 c]) ∧ Below w.heap.size w w') := by
  cases hok : progOk rows
  · exact ⟨_, _, fun a len cap w h => specPack_bad a len cap rows w h hok, fun a len cap w h => implPack_bad a len cap rows w h hok⟩
  · exact ⟨_, _, fun a len cap w h => specPack_ok a len cap rows w h hok, fun a len cap w h => implPack_ok a len cap rows w h hok⟩

end Go.Proofs.YtiokkoaalakakaaGreatDoor
