/-
  FnExactPackProgram: both pack the same; the argument is left as it was. Also spec.PackProgram.
-/
import Derived.Test.YtiokkoaalakakaaPackS
import Derived.Test.YtiokkoaalakakaaProgOKWalk
namespace Go.Proofs.Ytiokkoaalakakaa
open Go.RowKit

/-- What PackProgram answers. -/
def packed (rows : List (List I3)) : Value := if progOk rows = true then .tuple #[.string (strOfNums (packL (progNums rows))), .int .i64 0] else .tuple #[.string ByteArray.empty, .int .i64 1]

set_option maxHeartbeats 1000000 in
set_option maxRecDepth 100000 in
theorem specPack_ok (a : Option Addr) (len cap : Nat) (rows : List (List I3)) (w : World) (h : Codes w a len cap rows) (hok : progOk rows = true) :
    Calls Try.prog 15 #[.agg #[.slice a len cap]] w fun e w' => e = .returned (.tuple #[.string (strOfNums (packL (progNums rows))), .int .i64 0]) ∧ Below w.heap.size w w' := by
  have k := specProgramOK_is a len cap rows
  rw [hok] at k
  have k2 := fun w h => l02Pack_ok a len cap rows w h hok
  generalize strOfNums (packL (progNums rows)) = txt at k2
  go_enter Try.func15, Try.ntmps15
  go_wp2_with fail
  refine (k _ (h.below (by go_grown))).mono ?_
  rintro e w1 ⟨rfl, hb1⟩
  have cP : w1.cell? ⟨w.heap.size, 0, none⟩ = some (.slice a len cap) := by rw [hb1.cell (by simp)]; simp [go_sem]
  have b1 : Below w.heap.size w w1 := bel_trans (by go_grown) hb1
  clear hb1 k hok
  go_wp2_with fail
  refine (k2 _ (h.below b1)).mono ?_
  rintro e w2 ⟨rfl, hb2⟩
  have b2 := bel_trans b1 hb2
  clear hb2 b1 k2 h cP
  go_wp2
  go_ret2
  exact ⟨rfl, b2⟩

set_option maxHeartbeats 1000000 in
set_option maxRecDepth 100000 in
theorem specPack_bad (a : Option Addr) (len cap : Nat) (rows : List (List I3)) (w : World) (h : Codes w a len cap rows) (hok : progOk rows = false) :
    Calls Try.prog 15 #[.agg #[.slice a len cap]] w fun e w' => e = .returned (.tuple #[.string ByteArray.empty, .int .i64 1]) ∧ Below w.heap.size w w' := by
  have k := specProgramOK_is a len cap rows
  rw [hok] at k
  go_enter Try.func15, Try.ntmps15
  go_wp2_with fail
  refine (k _ (h.below (by go_grown))).mono ?_
  rintro e w1 ⟨rfl, hb1⟩
  have b1 : Below w.heap.size w w1 := bel_trans (by go_grown) hb1
  clear hb1 k h
  go_wp2
  go_ret2
  exact ⟨rfl, b1⟩

/-- Both answer one text and one code. -/
theorem pack_pair (rows : List (List I3)) : ∃ (t : ByteArray) (c : Int), (∀ (a : Option Addr) (len cap : Nat) (w : World), Codes w a len cap rows → Calls Try.prog 15 #[.agg #[.slice a len cap]] w fun e w' => e = .returned (.tuple #[.string t, .int .i64 c]) ∧ Below w.heap.size w w') ∧
    (∀ (a : Option Addr) (len cap : Nat) (w : World), Codes w a len cap rows → Calls Try.prog 16 #[.agg #[.slice a len cap]] w fun e w' => e = .returned (.tuple #[.string t, .int .i64 c]) ∧ Below w.heap.size w w') := by
  cases hok : progOk rows
  · exact ⟨_, _, fun a len cap w h => specPack_bad a len cap rows w h hok, fun a len cap w h => implPack_bad a len cap rows w h hok⟩
  · exact ⟨_, _, fun a len cap w h => specPack_ok a len cap rows w h hok, fun a len cap w h => implPack_ok a len cap rows w h hok⟩

set_option maxHeartbeats 2000000 in
set_option maxRecDepth 100000 in
theorem fnExactPackProgram_walk (a : Option Addr) (len cap : Nat) (rows : List (List I3)) (w : World) (h : Codes w a len cap rows) : Calls Try.prog 5 #[.agg #[.slice a len cap]] w fun e w' => e = .returned (.bool true) ∧ Below w.heap.size w w' := by
  have hsz := sizeLeft_or rows 1048576 (by omega)
  have hbd := size_bounds (rows := rows) (left := 1048576) (by omega)
  obtain ⟨t, c, kS, kI⟩ := pack_pair rows
  have hne : (c != c) = false := by simp
  go_enter Try.func5, Try.ntmps5
  go_wp2_with fail
  refine (szProgram_less a len cap rows 1048576 _ (h.below (by go_grown)) (by omega) (by omega)).mono ?_
  rintro e w1 ⟨rfl, hb1⟩
  have cP : w1.cell? ⟨w.heap.size, 0, none⟩ = some (.slice a len cap) := by rw [hb1.cell (by simp)]; simp [go_sem]
  have b1 : Below w.heap.size w w1 := bel_trans (by go_grown) hb1
  clear hb1
  generalize sizeLeft 1048576 rows = n at hsz hbd
  rcases hsz with rfl | ⟨hn0, hn1⟩
  · clear hbd
    go_wp2
    go_ret
    exact ⟨rfl, b1⟩
  · obtain ⟨hr, hr'⟩ := hbd hn0 (by omega)
    clear hbd
    have hlen : len ≤ 1048576 := by rw [← h.1]; exact hr
    have hn : decide (n < 0) = false := by simp; omega
    go_wp2_with fail
    refine (toProgram_copy a len cap rows _ (h.below b1) hlen (fun t _ => hr' t)).mono ?_
    rintro e w2 ⟨rfl, hC2, hb2⟩
    have b2 := bel_trans b1 hb2
    replace cP := cells_kept hb2 _ _ cP
    clear hb2 b1
    go_wp2_with fail
    refine (kS _ _ _ _ hC2.codes).mono ?_
    rintro e w3 ⟨rfl, hb3⟩
    have b3 := bel_trans b2 hb3
    replace cP := cells_kept hb3 _ _ cP
    clear hb3 b2 hC2
    go_wp2_with fail
    refine (toProgram_copy a len cap rows _ (h.below b3) hlen (fun t _ => hr' t)).mono ?_
    rintro e w4 ⟨rfl, hC4, hb4⟩
    have b4 := bel_trans b3 hb4
    replace cP := cells_kept hb4 _ _ cP
    replace hC4 := hC4.codes
    clear hb4 b3
    generalize w3.heap.size + 3 = g at hC4
    go_wp2_with fail
    refine (kI _ _ _ _ (hC4.below (by go_grown))).mono ?_
    rintro e w5 ⟨rfl, hb5⟩
    have cX : w5.cell? ⟨w4.heap.size, 0, none⟩ = some (.slice (some ⟨g, 0, none⟩) len len) := by rw [hb5.cell (by simp)]; simp [go_sem]
    have hb5' : Below w4.heap.size w4 w5 := bel_trans (by go_grown) hb5
    have b5 := bel_trans b4 hb5'
    replace cP := cells_kept hb5' _ _ cP
    replace hC4 := hC4.below hb5'
    clear hb5 hb5' b4 kS kI
    generalize w4.heap.size = X at cX
    go_wp2_with fail
    have hA : Codes w5.drew a len cap rows := (h.below b5).below (by go_grown)
    have hX : Codes w5.drew (some ⟨g, 0, none⟩) len len rows := hC4.below (by go_grown)
    clear hC4
    go_region_held3 (fun w' => w'.cell? ⟨X, 0, none⟩ = some (.slice (some ⟨g, 0, none⟩) len len) ∧ w'.cell? ⟨w.heap.size, 0, none⟩ = some (.slice a len cap)) (first | (exact ⟨cX, cP⟩) | (exact ⟨cX6, cP6⟩) | (exact ⟨cells_kept hb7 _ _ cX6, cells_kept hb7 _ _ cP6⟩))
      (first | (go_at_call 12; refine (toProgram_copy a len cap rows _ hA hlen (fun t _ => hr' t)).mono ?_; rintro e w6 ⟨rfl, hC6, hb6⟩; have hD := hX.below hb6; have cX6 := cells_kept hb6 _ _ cX; have cP6 := cells_kept hb6 _ _ cP) | (go_at_call 14; refine (eqProgram_same _ _ _ _ _ rows _ hD hC6.codes).mono ?_; rintro e w7 ⟨rfl, hb7⟩))
    have b7 : Below w.heap.size w w7 := bel_trans b5 (bel_trans (by go_grown) (bel_trans hb6 hb7))
    go_wp2
    go_ret
    exact ⟨rfl, b7⟩
end Go.Proofs.Ytiokkoaalakakaa
