/-
  FnProgram, part 50 of 50 (FnProgWalk).
-/
import Derived.Test.YtiokkoaalakakaaGreatDoorJ39
import Derived.Test.YtiokkoaalakakaaGreatDoorJ43
import Derived.Test.YtiokkoaalakakaaGreatDoorJ45
import Derived.Test.YtiokkoaalakakaaGreatDoorJ46
import Derived.Test.YtiokkoaalakakaaGreatDoorJ49
import Derived.Test.YtiokkoaalakakaaGreatDoorJ36

/-
  FnProgram: a right program is read back from its lines and from its bytes, and from no longer ones; an instruction from its text: the law's walk.
-/
namespace Go.Proofs.YtiokkoaalakakaaGreatDoor
open Go.RowKit

set_option maxHeartbeats 8000000 in
set_option maxRecDepth 100000 in
theorem fnProgram_walk (a0 : Option Addr) (len0 cap0 : Nat) (z0 : List Int) (a1 : Option Addr) (len1 cap1 : Nat) (z1 : List Int) (w : World) (h0 : IsRow .u8 w a0 len0 cap0 z0) (h1 : IsRow .u8 w a1 len1 cap1 z1) (hL : ErrType w ∧ OpTable w) :
    Calls Tryz.prog 3 #[.slice a0 len0 cap0, .slice a1 len1 cap1] w fun e w' => e = .returned (.bool true) ∧ Below w.heap.size w w' := by
  obtain ⟨hE, hT⟩ := hL
  have m0 := h0.len_le
  have m1 := h1.len_le
  unfold maxLen at m0 m1
  by_cases hb0 : 1048576 < len0
  · go_enter Tryz.func3, Tryz.ntmps3
    go_wp2
    go_ret
    exact ⟨rfl, Below.refl _ _⟩
  by_cases hb1 : 1048576 < len1
  · go_enter Tryz.func3, Tryz.ntmps3
    go_wp2
    go_ret
    exact ⟨rfl, Below.refl _ _⟩
  have l0 : len0 ≤ 1048576 := by omega
  have l1 : len1 ≤ 1048576 := by omega
  clear hb0 hb1 m0 m1
  go_enter Tryz.func3, Tryz.ntmps3
  go_wp2_with fail
  refine (programDrawn_any _ _ _ z0 _ h0 l0).mono ?_
  rintro e w1 ⟨⟨v, rows, hok, rfl, ho⟩, bw⟩
  have h3 := (progOk_parts hok).1
  obtain ⟨a, cap, hv⟩ := ho.slice
  rw [h3] at hv
  subst hv
  have hC := ho.codes (fits_ok hok)
  clear ho h0
  replace h1 := h1.below bw
  replace hE := hE.below bw
  replace hT := hT.below bw
  have kText := fun w h hT => implText_ok a 3 cap rows w h hok hT
  have kWant := fun w h => specText_ok a 3 cap rows w h hok
  have kPack := fun w h => implPack_ok a 3 cap rows w h hok
  have kDue := fun w h => specPack_ok a 3 cap rows w h hok
  have hsz := packP_small hok
  have HU : Hid (IsProg (strOfNums (packL (progNums rows))) rows 0) := isProg_pack hok
  have HX : Hid (IsProg (strOfNums (packL (progNums rows)) ++ ⟨#[120]⟩) [] 3) := isProg_more hok _ (by decide)
  obtain ⟨t, ht⟩ : ∃ t, t = strOfNums (packL (progNums rows)) := ⟨_, rfl⟩
  rw [← ht] at kPack kDue hsz HU HX
  clear ht
  have HL : Hid (IsRP (linesTo rows 3) rows 0) := lines_back hok
  obtain ⟨hll, hls⟩ := lines_small hok
  obtain ⟨ls, hle⟩ : ∃ ls, ls = linesTo rows 3 := ⟨_, rfl⟩
  rw [← hle] at kText kWant HL hll hls
  clear hle
  obtain ⟨m, hm⟩ : ∃ m, m = ls.length := ⟨_, rfl⟩
  have HM : Hid (m = ls.length) := hm
  rw [← hm] at kText kWant hll
  clear hm
  have hfit := fits_ok hok
  have HOK : Hid (progOk rows = true) := hok
  clear hok
  have H3 : Hid (rows.length = 3) := h3
  clear h3
  have ha1 : Below w1.heap.size w1 (w1.alloc (.cells #[.slice a 3 cap] 25)) := by go_grown
  replace hE := hE.below ha1
  replace hT := hT.below ha1
  replace h1 := h1.below ha1
  replace bw := bel_trans bw ha1
  replace hC := hC.below ha1
  have cP : (w1.alloc (.cells #[.slice a 3 cap] 25)).cell? ⟨w1.heap.size, 0, none⟩ = some (.slice a 3 cap) := by simp [go_sem]
  clear ha1
  go_wp2_with fail
  generalize (w1.alloc (.cells #[.slice a 3 cap] 25)) = wp at *
  generalize w1.heap.size = P at *
  refine (kText _ hC hT).mono ?_
  rintro e w2 ⟨vl, rfl, ho2, hb2⟩
  replace hE := hE.below hb2
  replace hT := hT.below hb2
  replace h1 := h1.below hb2
  replace bw := bel_trans bw hb2
  replace hC := hC.below hb2
  replace cP := cells_kept hb2 _ _ cP
  rw [HM.out] at ho2
  obtain ⟨aL, capL, rfl, hO2⟩ := OwnT.of_owns ho2
  rw [← HM.out] at hO2
  rw [← HM.out]
  have hLs := hO2.strs
  clear ho2 hO2 kText hb2
  go_wp2_with fail
  refine (kWant _ hC).mono ?_
  rintro e w3 ⟨vw, rfl, ho3, hb3⟩
  replace hE := hE.below hb3
  replace hT := hT.below hb3
  replace h1 := h1.below hb3
  replace bw := bel_trans bw hb3
  replace hC := hC.below hb3
  replace cP := cells_kept hb3 _ _ cP
  replace hLs := hLs.below hb3
  rw [HM.out] at ho3
  obtain ⟨aW, capW, rfl, hO3⟩ := OwnT.of_owns ho3
  rw [← HM.out] at hO3
  rw [← HM.out]
  have hWs := hO3.strs
  clear ho3 hO3 kWant hb3
  go_wp2_with fail
  refine (implRP_any _ _ _ ls _ hLs (by omega) hls hT).mono ?_
  rintro e w4 ⟨hR, hb4⟩
  replace hE := hE.below hb4
  replace hT := hT.below hb4
  replace h1 := h1.below hb4
  replace bw := bel_trans bw hb4
  replace hC := hC.below hb4
  replace cP := cells_kept hb4 _ _ cP
  replace hLs := hLs.below hb4
  replace hWs := hWs.below hb4
  obtain ⟨aX, capX, he, hoX⟩ := rp_gives hR HL.out
  rw [H3.out] at he hoX
  subst he
  have hX := hoX.codes hfit
  clear hR hoX HL hls hb4
  have ha4 : Below w4.heap.size w4 (w4.alloc (.cells #[.slice aX 3 capX] 25)) := by go_grown
  replace hE := hE.below ha4
  replace hT := hT.below ha4
  replace h1 := h1.below ha4
  replace bw := bel_trans bw ha4
  replace hC := hC.below ha4
  replace cP := cells_kept ha4 _ _ cP
  replace hLs := hLs.below ha4
  replace hWs := hWs.below ha4
  replace hX := hX.below ha4
  have cX : (w4.alloc (.cells #[.slice aX 3 capX] 25)).cell? ⟨w4.heap.size, 0, none⟩ = some (.slice aX 3 capX) := by simp [go_sem]
  clear ha4
  go_wp2_with fail
  generalize (w4.alloc (.cells #[.slice aX 3 capX] 25)) = wx at *
  generalize w4.heap.size = X at *
  refine (kPack _ hC).mono ?_
  rintro e w5 ⟨rfl, hb5⟩
  replace hE := hE.below hb5
  replace hT := hT.below hb5
  replace h1 := h1.below hb5
  replace bw := bel_trans bw hb5
  replace hC := hC.below hb5
  replace cP := cells_kept hb5 _ _ cP
  replace hLs := hLs.below hb5
  replace hWs := hWs.below hb5
  replace hX := hX.below hb5
  replace cX := cells_kept hb5 _ _ cX
  clear hb5 kPack
  go_wp2_with fail
  refine (kDue _ hC).mono ?_
  rintro e w6 ⟨rfl, hb6⟩
  replace hE := hE.below hb6
  replace hT := hT.below hb6
  replace h1 := h1.below hb6
  replace bw := bel_trans bw hb6
  replace hC := hC.below hb6
  replace cP := cells_kept hb6 _ _ cP
  replace hLs := hLs.below hb6
  replace hWs := hWs.below hb6
  replace hX := hX.below hb6
  replace cX := cells_kept hb6 _ _ cX
  clear hb6 kDue
  go_wp2_with fail
  refine (implUnProg_any t _ (by omega) hE).mono ?_
  rintro e w7 ⟨hR, hb7⟩
  replace hE := hE.below hb7
  replace hT := hT.below hb7
  replace h1 := h1.below hb7
  replace bw := bel_trans bw hb7
  replace hC := hC.below hb7
  replace cP := cells_kept hb7 _ _ cP
  replace hLs := hLs.below hb7
  replace hWs := hWs.below hb7
  replace hX := hX.below hb7
  replace cX := cells_kept hb7 _ _ cX
  obtain ⟨aY, capY, he, hoY⟩ := up_gives hR HU.out
  rw [H3.out] at he hoY
  subst he
  have hY := hoY.codes hfit
  clear hR hoY HU hb7
  have ha7 : Below w7.heap.size w7 (w7.alloc (.cells #[.slice aY 3 capY] 25)) := by go_grown
  replace hE := hE.below ha7
  replace hT := hT.below ha7
  replace h1 := h1.below ha7
  replace bw := bel_trans bw ha7
  replace hC := hC.below ha7
  replace cP := cells_kept ha7 _ _ cP
  replace hLs := hLs.below ha7
  replace hWs := hWs.below ha7
  replace hX := hX.below ha7
  replace cX := cells_kept ha7 _ _ cX
  replace hY := hY.below ha7
  have cY : (w7.alloc (.cells #[.slice aY 3 capY] 25)).cell? ⟨w7.heap.size, 0, none⟩ = some (.slice aY 3 capY) := by simp [go_sem]
  clear ha7
  have hadd := fun W => run_string_add_sum (P := Tryz.prog) W t ⟨#[120]⟩ (by have : (⟨#[120]⟩ : ByteArray).size = 1 := rfl; omega)
  have htx : (t ++ ⟨#[120]⟩).size ≤ 65536 := by rw [ByteArray.size_append]; have : (⟨#[120]⟩ : ByteArray).size = 1 := rfl; omega
  go_wp2_with fail
  generalize (w7.alloc (.cells #[.slice aY 3 capY] 25)) = wy at *
  generalize w7.heap.size = Y at *
  refine (implUnProg_any _ _ htx hE).mono ?_
  rintro e w8 ⟨hR, hb8⟩
  replace hE := hE.below hb8
  replace hT := hT.below hb8
  replace h1 := h1.below hb8
  replace bw := bel_trans bw hb8
  replace hC := hC.below hb8
  replace cP := cells_kept hb8 _ _ cP
  replace hLs := hLs.below hb8
  replace hWs := hWs.below hb8
  replace hX := hX.below hb8
  replace cX := cells_kept hb8 _ _ cX
  replace hY := hY.below hb8
  replace cY := cells_kept hb8 _ _ cY
  obtain ⟨aZ, capZ, he, hoZ⟩ := up_gives hR HX.out
  simp only [List.length_nil] at he
  subst he
  clear hR hoZ HX hb8 hadd htx hE
  have ha8 : Below w8.heap.size w8 (w8.alloc (.cells #[.slice aZ 0 capZ] 25)) := by go_grown
  replace hT := hT.below ha8
  replace h1 := h1.below ha8
  replace bw := bel_trans bw ha8
  replace hC := hC.below ha8
  replace cP := cells_kept ha8 _ _ cP
  replace hLs := hLs.below ha8
  replace hWs := hWs.below ha8
  replace hX := hX.below ha8
  replace cX := cells_kept ha8 _ _ cX
  replace hY := hY.below ha8
  replace cY := cells_kept ha8 _ _ cY
  clear ha8
  go_wp2_with fail
  generalize (w8.alloc (.cells #[.slice aZ 0 capZ] 25)) = wz at *
  generalize w8.heap.size = Z at *
  refine (instrDrawn_any _ _ _ z1 _ h1 l1).mono ?_
  rintro e w9 ⟨⟨x, hox, rfl⟩, hb9⟩
  replace hT := hT.below hb9
  replace bw := bel_trans bw hb9
  replace hC := hC.below hb9
  replace cP := cells_kept hb9 _ _ cP
  replace hLs := hLs.below hb9
  replace hWs := hWs.below hb9
  replace hX := hX.below hb9
  replace cX := cells_kept hb9 _ _ cX
  replace hY := hY.below hb9
  replace cY := cells_kept hb9 _ _ cY
  clear h1 hb9
  have kOk := instrOK_is x
  rw [hox] at kOk
  have kIT := fun w hT => implInstrText_ok x (txtI x) w hT hox (fun w hT => textOf_is hox w hT)
  have hsx := txtI_size x
  have HI : Hid (∀ e, InsOut (txtI x) e → e = .returned (.tuple #[x.val, .int .i64 0])) := fun e h => in_gives h hox
  generalize txtI x = s at kIT hsx HI
  clear hox
  obtain ⟨c, u, q⟩ := x
  unfold I3.val at *
  simp only at *
  have ha9 : Below w9.heap.size w9 (w9.alloc (.cells #[.int .i64 c, .int .i64 u, .int .i64 q] 36)) := by go_grown
  replace hT := hT.below ha9
  replace bw := bel_trans bw ha9
  replace hC := hC.below ha9
  replace cP := cells_kept ha9 _ _ cP
  replace hLs := hLs.below ha9
  replace hWs := hWs.below ha9
  replace hX := hX.below ha9
  replace cX := cells_kept ha9 _ _ cX
  replace hY := hY.below ha9
  replace cY := cells_kept ha9 _ _ cY
  have cI0 : (w9.alloc (.cells #[.int .i64 c, .int .i64 u, .int .i64 q] 36)).cell? ⟨w9.heap.size, 0, none⟩ = some (.int .i64 c) := by simp [go_sem]
  have cI1 : (w9.alloc (.cells #[.int .i64 c, .int .i64 u, .int .i64 q] 36)).cell? ⟨w9.heap.size, 1, none⟩ = some (.int .i64 u) := by simp [go_sem]
  have cI2 : (w9.alloc (.cells #[.int .i64 c, .int .i64 u, .int .i64 q] 36)).cell? ⟨w9.heap.size, 2, none⟩ = some (.int .i64 q) := by simp [go_sem]
  clear ha9
  go_wp2_with fail
  generalize (w9.alloc (.cells #[.int .i64 c, .int .i64 u, .int .i64 q] 36)) = wi at *
  generalize w9.heap.size = I at *
  refine (kIT _ hT).mono ?_
  rintro e w10 ⟨rfl, hb10⟩
  replace hT := hT.below hb10
  replace bw := bel_trans bw hb10
  replace hC := hC.below hb10
  replace cP := cells_kept hb10 _ _ cP
  replace hLs := hLs.below hb10
  replace hWs := hWs.below hb10
  replace hX := hX.below hb10
  replace cX := cells_kept hb10 _ _ cX
  replace hY := hY.below hb10
  replace cY := cells_kept hb10 _ _ cY
  replace cI0 := cells_kept hb10 _ _ cI0
  replace cI1 := cells_kept hb10 _ _ cI1
  replace cI2 := cells_kept hb10 _ _ cI2
  clear hb10 kIT
  go_wp2_with fail
  refine (implReadInstr_any s _ (by omega) hT).mono ?_
  rintro e w11 ⟨hR, hb11⟩
  replace bw := bel_trans bw hb11
  replace hC := hC.below hb11
  replace cP := cells_kept hb11 _ _ cP
  replace hLs := hLs.below hb11
  replace hWs := hWs.below hb11
  replace hX := hX.below hb11
  replace cX := cells_kept hb11 _ _ cX
  replace hY := hY.below hb11
  replace cY := cells_kept hb11 _ _ cY
  replace cI0 := cells_kept hb11 _ _ cI0
  replace cI1 := cells_kept hb11 _ _ cI1
  replace cI2 := cells_kept hb11 _ _ cI2
  obtain rfl := HI.out _ hR
  clear hR HI hb11 hT
  have ha11 : Below w11.heap.size w11 (w11.alloc (.cells #[.int .i64 c, .int .i64 u, .int .i64 q] 36)) := by go_grown
  replace bw := bel_trans bw ha11
  replace hC := hC.below ha11
  replace cP := cells_kept ha11 _ _ cP
  replace hLs := hLs.below ha11
  replace hWs := hWs.below ha11
  replace hX := hX.below ha11
  replace cX := cells_kept ha11 _ _ cX
  replace hY := hY.below ha11
  replace cY := cells_kept ha11 _ _ cY
  replace cI0 := cells_kept ha11 _ _ cI0
  replace cI1 := cells_kept ha11 _ _ cI1
  replace cI2 := cells_kept ha11 _ _ cI2
  have cB0 : (w11.alloc (.cells #[.int .i64 c, .int .i64 u, .int .i64 q] 36)).cell? ⟨w11.heap.size, 0, none⟩ = some (.int .i64 c) := by simp [go_sem]
  have cB1 : (w11.alloc (.cells #[.int .i64 c, .int .i64 u, .int .i64 q] 36)).cell? ⟨w11.heap.size, 1, none⟩ = some (.int .i64 u) := by simp [go_sem]
  have cB2 : (w11.alloc (.cells #[.int .i64 c, .int .i64 u, .int .i64 q] 36)).cell? ⟨w11.heap.size, 2, none⟩ = some (.int .i64 q) := by simp [go_sem]
  clear ha11
  go_wp2_with fail
  generalize (w11.alloc (.cells #[.int .i64 c, .int .i64 u, .int .i64 q] 36)) = wb at *
  generalize w11.heap.size = B at *
  refine (sameTexts_same _ _ _ _ _ ls _ hLs hWs).mono ?_
  rintro e w12 ⟨rfl, d, rfl⟩
  have hb12 : Below wb.heap.size wb (wb.drewN d) := below_drewN (Below.refl _ _) d
  replace bw := bel_trans bw hb12
  replace hC := hC.below hb12
  replace cP := cells_kept hb12 _ _ cP
  replace hX := hX.below hb12
  replace cX := cells_kept hb12 _ _ cX
  replace hY := hY.below hb12
  replace cY := cells_kept hb12 _ _ cY
  replace cI0 := cells_kept hb12 _ _ cI0
  replace cI1 := cells_kept hb12 _ _ cI1
  replace cI2 := cells_kept hb12 _ _ cI2
  replace cB0 := cells_kept hb12 _ _ cB0
  replace cB1 := cells_kept hb12 _ _ cB1
  replace cB2 := cells_kept hb12 _ _ cB2
  clear hLs hWs hb12
  generalize wb.drewN d = w12 at *
  have hdx : decide (rows = rows) = true := by simp
  have hcc : (c == c) = true := by simp
  have huu : (u == u) = true := by simp
  have hqq : (q == q) = true := by simp
  have htt : (t.toList == t.toList) = true := by simp
  have kSX := fun a' cap' w ha hb => implSame_ok a' 3 cap' rows a 3 cap rows w ha hb HOK.out HOK.out
  rw [hdx] at kSX
  go_wp2_with fail
  refine (kSX _ _ _ hX hC).mono ?_
  rintro e w13 ⟨rfl, hb13⟩
  replace bw := bel_trans bw hb13
  replace hC := hC.below hb13
  replace cP := cells_kept hb13 _ _ cP
  replace hY := hY.below hb13
  replace cY := cells_kept hb13 _ _ cY
  replace cI0 := cells_kept hb13 _ _ cI0
  replace cI1 := cells_kept hb13 _ _ cI1
  replace cI2 := cells_kept hb13 _ _ cI2
  replace cB0 := cells_kept hb13 _ _ cB0
  replace cB1 := cells_kept hb13 _ _ cB1
  replace cB2 := cells_kept hb13 _ _ cB2
  clear hX cX hb13
  go_wp2_with fail
  refine (kSX _ _ _ hY hC).mono ?_
  rintro e w14 ⟨rfl, hb14⟩
  replace bw := bel_trans bw hb14
  replace hC := hC.below hb14
  replace cP := cells_kept hb14 _ _ cP
  replace cI0 := cells_kept hb14 _ _ cI0
  replace cI1 := cells_kept hb14 _ _ cI1
  replace cI2 := cells_kept hb14 _ _ cI2
  replace cB0 := cells_kept hb14 _ _ cB0
  replace cB1 := cells_kept hb14 _ _ cB1
  replace cB2 := cells_kept hb14 _ _ cB2
  clear hY cY hb14 kSX
  go_wp2_with fail
  refine (kOk _).mono ?_
  rintro e w15 ⟨rfl, hb15⟩
  replace bw := bel_trans bw hb15
  replace hC := hC.below hb15
  replace cP := cells_kept hb15 _ _ cP
  replace cI0 := cells_kept hb15 _ _ cI0
  replace cI1 := cells_kept hb15 _ _ cI1
  replace cI2 := cells_kept hb15 _ _ cI2
  replace cB0 := cells_kept hb15 _ _ cB0
  replace cB1 := cells_kept hb15 _ _ cB1
  replace cB2 := cells_kept hb15 _ _ cB2
  clear hb15 kOk
  have kPO := implProgramOK_is a 3 cap rows
  rw [HOK.out] at kPO
  go_wp2_with fail
  refine (kPO _ hC).mono ?_
  rintro e w16 ⟨rfl, hb16⟩
  replace bw := bel_trans bw hb16
  clear hb16
  go_wp2
  go_ret
  exact ⟨rfl, bw⟩
end Go.Proofs.YtiokkoaalakakaaGreatDoor
