
/-
  FnDisk: what is flushed survives a crash, of the rest just a beginning: the law's walk over the contracts, at every two codes.
-/
import Derived.Test.YtkfaodbkgahgbaaDskC
import Derived.Test.YtkfaodbkgahgbaaDrawn
import Derived.Test.YtkfaodbkgahgbaaAt
import Derived.Test.YtkfaodbkgahgbaaRowBelow
import Derived.BigQuiet
namespace Go.Proofs.Ytkfaodbkgahgbaa
open Go.RowKit
set_option linter.unusedVariables false
set_option linter.unusedSimpArgs false

theorem noT_app (s : ByteArray) : noT ++ s = s := ByteArray.empty_append
theorem app_noT (s : ByteArray) : s ++ noT = s := ByteArray.append_empty
theorem appD_new (s : ByteArray) (h : s.size ≤ 20) : appD noD s = ((noT, s), 0) := by
  unfold appD noD
  rw [if_neg (by omega), if_neg (not_not_intro (show noT.size + noT.size ≤ 60000 by decide)), if_neg (not_not_intro (show noT.size + noT.size + s.size ≤ 60000 by show 0 + 0 + s.size ≤ 60000; omega))]
  show ((noT, noT ++ s), (0 : Int)) = _
  rw [noT_app]
theorem flushD_new (s : ByteArray) (h : s.size ≤ 20) : flushD (noT, s) = ((s, noT), 0) := by
  unfold flushD
  rw [if_neg (not_not_intro (show noT.size + s.size ≤ 60000 by show 0 + s.size ≤ 60000; omega))]
  show ((noT ++ s, noT), (0 : Int)) = _
  rw [noT_app]
theorem appD_two (s t : ByteArray) (h : s.size ≤ 20) (h2 : t.size ≤ 20) : appD (s, noT) t = ((s, t), 0) := by
  unfold appD
  rw [if_neg (by omega), if_neg (not_not_intro (show s.size + noT.size ≤ 60000 by show s.size + 0 ≤ 60000; omega)), if_neg (not_not_intro (show s.size + noT.size + t.size ≤ 60000 by show s.size + 0 + t.size ≤ 60000; omega))]
  show ((s, noT ++ t), (0 : Int)) = _
  rw [noT_app]
theorem crashD_two (s t : ByteArray) (n : Int) (h : s.size ≤ 20) (h2 : t.size ≤ 20) (h0 : 0 ≤ n) (h1 : n ≤ 25) : crashD (s, t) n = ((s ++ t.extract 0 (min n (t.size : Int)).toNat, noT), 0) := by
  unfold crashD
  rw [if_neg (not_not_intro (show s.size + t.size ≤ 60000 by omega)), if_neg (not_not_intro ⟨h0, by omega⟩)]
theorem flushD_two (s t : ByteArray) (h : s.size ≤ 20) (h2 : t.size ≤ 20) : flushD (s, t) = ((s ++ t, noT), 0) := by
  unfold flushD
  rw [if_neg (not_not_intro (show s.size + t.size ≤ 60000 by omega))]
theorem cut_app (s t : ByteArray) : (s ++ t).extract 0 s.size = s := by
  rw [ByteArray.extract_append]
  simp
theorem cutD_two (s t : ByteArray) (h : s.size ≤ 20) (h2 : t.size ≤ 20) : cutD (s ++ t, noT) (s.size : Int) = ((s, noT), 0) := by
  have hs : (s ++ t).size = s.size + t.size := ByteArray.size_append
  rw [cutD_0 (s ++ t) (s.size : Int) (by show (s ++ t).size + 0 ≤ 60000; omega) ⟨by omega, by omega⟩]
  rw [Int.toNat_natCast, cut_app]
theorem replD_two (s t : ByteArray) (h : s.size ≤ 20) (h2 : t.size ≤ 20) : replD (s, t) t = ((t, noT), 0) := by
  unfold replD
  rw [if_neg (by omega), if_neg (not_not_intro (show s.size + t.size ≤ 60000 by omega)), if_neg (not_not_intro (show t.size ≤ 60000 by omega))]

set_option maxHeartbeats 16000000 in
set_option maxRecDepth 100000 in
theorem fnDisk_walk (a0 : Option Addr) (len0 cap0 : Nat) (z0 : List Int) (a1 : Option Addr) (len1 cap1 : Nat) (z1 : List Int) (w : World) (h0 : IsRow .u8 w a0 len0 cap0 z0) (h1 : IsRow .u8 w a1 len1 cap1 z1) :
    Calls Try.prog 3 #[.slice a0 len0 cap0, .slice a1 len1 cap1] w fun e w' => e = .returned (.bool true) ∧ Below w.heap.size w w' := by
  have m0 := h0.len_le
  have m1 := h1.len_le
  unfold maxLen at m0 m1
  by_cases hb0 : 1048576 < len0
  · go_enter Try.func3, Try.ntmps3
    go_wp2
    go_ret
    exact ⟨rfl, Below.refl _ _⟩
  by_cases hb1 : 1048576 < len1
  · go_enter Try.func3, Try.ntmps3
    go_wp2
    go_ret
    exact ⟨rfl, Below.refl _ _⟩
  have l0 : len0 ≤ 1048576 := by omega
  have l1 : len1 ≤ 1048576 := by omega
  clear hb0 hb1 m0 m1
  go_enter Try.func3, Try.ntmps3
  go_wp2_with fail
  refine (at_any _ _ _ z0 0 20 _ h0 l0 (by omega) (by omega) (by omega)).mono ?_
  rintro e w1 ⟨⟨c1, hc1, rfl⟩, d1, rfl⟩
  have hc : c1 ≤ 20 := by omega
  clear hc1
  have r0 := h0.drew d1
  have r1 := h1.drew d1
  have B1 : Below w.heap.size w (w.drewN d1) := below_drewN (Below.refl _ _) d1
  clear h0 h1
  generalize w.drewN d1 = W1 at *
  go_wp2_with fail
  refine (textOf_any _ _ _ c1 z0 _ r0 l0 (by omega)).mono ?_
  rintro e w2 ⟨⟨ys, hyl, hyb, rfl⟩, b2⟩
  have hs : (strOfNums ys).size ≤ 20 := by rw [strOfNums_size, hyl]; exact hc
  replace r1 := r1.below b2
  replace B1 := belD B1 b2
  clear hyl hyb r0 b2 hc
  generalize strOfNums ys = s at *
  go_wp2_with fail
  refine (at_any _ _ _ z1 0 20 _ r1 l1 (by omega) (by omega) (by omega)).mono ?_
  rintro e w3 ⟨⟨c2, hc2, rfl⟩, d2, rfl⟩
  have hc : c2 ≤ 20 := by omega
  clear hc2
  replace r1 := r1.drew d2
  replace B1 : Below w.heap.size w (w2.drewN d2) := below_drewN B1 d2
  generalize w2.drewN d2 = W2 at *
  go_wp2_with fail
  refine (textOf_any _ _ _ c2 z1 _ r1 l1 (by omega)).mono ?_
  rintro e w4 ⟨⟨us, hyl, hyb, rfl⟩, b2⟩
  have ht : (strOfNums us).size ≤ 20 := by rw [strOfNums_size, hyl]; exact hc
  replace r1 := r1.below b2
  replace B1 := belD B1 b2
  clear hyl hyb b2 hc
  generalize strOfNums us = t at *
  go_wp2_with fail
  refine (at_any _ _ _ z1 1 25 _ r1 l1 (by omega) (by omega) (by omega)).mono ?_
  rintro e w5 ⟨⟨c3, hc3, rfl⟩, d3, rfl⟩
  have hn : (c3 : Int) ≤ 25 := by omega
  have hn0 : 0 ≤ (c3 : Int) := by omega
  clear hc3 r1
  replace B1 : Below w.heap.size w (w4.drewN d3) := below_drewN B1 d3
  generalize w4.drewN d3 = W3 at *
  generalize (c3 : Int) = n at *
  have k1 := implAppendDisk_is noT noT s
  have k2 := implFlushDisk_is noT s
  have k3 := implAppendDisk_is s noT t
  have k4 := implCrashDisk_is s t n
  have k5 := implFlushDisk_is s t
  have k6 := implCutDisk_is (s ++ t) noT (s.size : Int)
  have k7 := implReplaceDisk_is s t t
  have k8 := fun w => implDiskOK_is (s, t) w (show s.size + t.size ≤ 1048576 by omega)
  rw [show appD (noT, noT) s = _ from appD_new s hs] at k1
  rw [flushD_new s hs] at k2
  rw [appD_two s t hs ht] at k3
  rw [crashD_two s t n hs ht hn0 hn] at k4
  rw [flushD_two s t hs ht] at k5
  rw [cutD_two s t hs ht] at k6
  rw [replD_two s t hs ht] at k7
  rw [show decide ((s, t).1.size + (s, t).2.size ≤ 60000) = true from decide_eq_true (show s.size + t.size ≤ 60000 by omega)] at k8
  unfold ResD D2.val at k1 k2 k3 k4 k5 k6 k7
  unfold D2.val at k8
  simp only at k1 k2 k3 k4 k5 k6 k7 k8
  go_wp2_with fail
  refine (k1 _ (by decide) (by omega)).mono ?_
  rintro e w6 ⟨rfl, b1⟩
  replace B1 := belD B1 b1
  clear b1 k1
  have pd := Blk.new w6 26 [.string noT, .string s]
  have hg : w.heap.size ≤ w6.heap.size := B1.size
  replace B1 := belD B1 (bel_new w6 (.cells #[.string noT, .string s] 26))
  obtain ⟨c0, c1⟩ : _ ∧ _ := ⟨pd.cell 0, pd.cell 1⟩
  simp only [List.getElem?_cons_zero, List.getElem?_cons_succ] at c0 c1
  go_wp2_with fail
  clear c0 c1
  generalize w6.heap.size = g at *
  generalize w6.alloc (.cells #[.string noT, .string s] 26) = W6 at *
  refine (k2 _ (by show 0 + s.size ≤ _; omega)).mono ?_
  rintro e w7 ⟨rfl, b1⟩
  replace B1 := belD B1 b1
  replace pd := pd.below b1
  clear b1 k2
  have f0 := pd.frozen 0
  have f1 := pd.frozen 1
  have pe := (pd.set 0 (.string s)).set 1 (.string noT)
  have bs : Below w.heap.size w ((w7.setCell ⟨g, 0, none⟩ (.string s)).setCell ⟨g, 1, none⟩ (.string noT)) := (B1.setCell hg _).setCell hg _
  simp only [List.set_cons_zero, List.set_cons_succ] at pe
  obtain ⟨c0, c1⟩ : _ ∧ _ := ⟨pe.cell 0, pe.cell 1⟩
  simp only [List.getElem?_cons_zero, List.getElem?_cons_succ] at c0 c1
  obtain ⟨q0, q1⟩ : _ ∧ _ := ⟨pd.cell 0, pd.cell 1⟩
  simp only [List.getElem?_cons_zero, List.getElem?_cons_succ] at q0 q1
  go_wp2_with fail
  clear f0 f1 c0 c1 q0 q1 pd
  generalize (w7.setCell ⟨g, 0, none⟩ (.string s)).setCell ⟨g, 1, none⟩ (.string noT) = W7 at *
  clear B1
  replace B1 := bs
  clear bs hg
  have pD := pe
  clear pe
  refine (k3 _ (by show s.size + 0 ≤ _; omega) (by omega)).mono ?_
  rintro e w8 ⟨rfl, b1⟩
  replace B1 := belD B1 b1
  replace pD := pD.below b1
  clear b1 k3
  have pX := Blk.new w8 26 [.string s, .string t]
  have b1 := bel_new w8 (.cells #[.string s, .string t] 26)
  replace B1 := belD B1 b1
  replace pD := pD.below b1
  clear b1
  obtain ⟨X0, X1⟩ : _ ∧ _ := ⟨pX.cell 0, pX.cell 1⟩
  simp only [List.getElem?_cons_zero, List.getElem?_cons_succ] at X0 X1
  go_wp2_with fail
  clear X0 X1
  generalize w8.heap.size = gX at *
  generalize w8.alloc (.cells #[.string s, .string t] 26) = WX at *
  refine (k4 _ (by omega)).mono ?_
  rintro e w9 ⟨rfl, b1⟩
  replace B1 := belD B1 b1
  replace pD := pD.below b1
  replace pX := pX.below b1
  clear b1 k4
  have pY := Blk.new w9 26 [.string (s ++ t.extract 0 (min n (t.size : Int)).toNat), .string noT]
  have b1 := bel_new w9 (.cells #[.string (s ++ t.extract 0 (min n (t.size : Int)).toNat), .string noT] 26)
  replace B1 := belD B1 b1
  replace pD := pD.below b1
  replace pX := pX.below b1
  clear b1
  obtain ⟨X0, X1⟩ : _ ∧ _ := ⟨pX.cell 0, pX.cell 1⟩
  simp only [List.getElem?_cons_zero, List.getElem?_cons_succ] at X0 X1
  go_wp2_with fail
  clear X0 X1
  generalize w9.heap.size = gY at *
  generalize w9.alloc (.cells #[.string (s ++ t.extract 0 (min n (t.size : Int)).toNat), .string noT] 26) = WY at *
  refine (k5 _ (by omega)).mono ?_
  rintro e w10 ⟨rfl, b1⟩
  replace B1 := belD B1 b1
  replace pD := pD.below b1
  replace pX := pX.below b1
  replace pY := pY.below b1
  clear b1 k5
  have pZ := Blk.new w10 26 [.string (s ++ t), .string noT]
  have b1 := bel_new w10 (.cells #[.string (s ++ t), .string noT] 26)
  replace B1 := belD B1 b1
  replace pD := pD.below b1
  replace pX := pX.below b1
  replace pY := pY.below b1
  clear b1
  obtain ⟨Z0, Z1⟩ : _ ∧ _ := ⟨pZ.cell 0, pZ.cell 1⟩
  simp only [List.getElem?_cons_zero, List.getElem?_cons_succ] at Z0 Z1
  go_wp2_with fail
  clear Z0 Z1
  generalize w10.heap.size = gZ at *
  generalize w10.alloc (.cells #[.string (s ++ t), .string noT] 26) = WZ at *
  refine (k6 _ (by show (s ++ t).size + 0 ≤ _; rw [ByteArray.size_append]; omega)).mono ?_
  rintro e w11 ⟨rfl, b1⟩
  replace B1 := belD B1 b1
  replace pD := pD.below b1
  replace pX := pX.below b1
  replace pY := pY.below b1
  replace pZ := pZ.below b1
  clear b1 k6
  have pU := Blk.new w11 26 [.string s, .string noT]
  have b1 := bel_new w11 (.cells #[.string s, .string noT] 26)
  replace B1 := belD B1 b1
  replace pD := pD.below b1
  replace pX := pX.below b1
  replace pY := pY.below b1
  replace pZ := pZ.below b1
  clear b1
  obtain ⟨X0, X1⟩ : _ ∧ _ := ⟨pX.cell 0, pX.cell 1⟩
  simp only [List.getElem?_cons_zero, List.getElem?_cons_succ] at X0 X1
  go_wp2_with fail
  clear X0 X1
  generalize w11.heap.size = gU at *
  generalize w11.alloc (.cells #[.string s, .string noT] 26) = WU at *
  refine (k7 _ (by omega) (by omega)).mono ?_
  rintro e w12 ⟨rfl, b1⟩
  replace B1 := belD B1 b1
  replace pD := pD.below b1
  replace pX := pX.below b1
  replace pY := pY.below b1
  replace pZ := pZ.below b1
  replace pU := pU.below b1
  clear b1 k7
  have pV := Blk.new w12 26 [.string t, .string noT]
  have b1 := bel_new w12 (.cells #[.string t, .string noT] 26)
  replace B1 := belD B1 b1
  replace pD := pD.below b1
  replace pX := pX.below b1
  replace pY := pY.below b1
  replace pZ := pZ.below b1
  replace pU := pU.below b1
  clear b1
  obtain ⟨D0, D1⟩ : _ ∧ _ := ⟨pD.cell 0, pD.cell 1⟩
  obtain ⟨X0, X1⟩ : _ ∧ _ := ⟨pX.cell 0, pX.cell 1⟩
  obtain ⟨Y0, Y1⟩ : _ ∧ _ := ⟨pY.cell 0, pY.cell 1⟩
  obtain ⟨Z0, Z1⟩ : _ ∧ _ := ⟨pZ.cell 0, pZ.cell 1⟩
  obtain ⟨U0, U1⟩ : _ ∧ _ := ⟨pU.cell 0, pU.cell 1⟩
  obtain ⟨V0, V1⟩ : _ ∧ _ := ⟨pV.cell 0, pV.cell 1⟩
  simp only [List.getElem?_cons_zero, List.getElem?_cons_succ] at D0 D1 X0 X1 Y0 Y1 Z0 Z1 U0 U1 V0 V1
  have hj : (t.extract 0 (min n (t.size : Int)).toNat).size ≤ t.size := by rw [ByteArray.size_extract]; omega
  have ha1 := fun W => run_string_add_sum (P := Try.prog) W s (t.extract 0 (min n (t.size : Int)).toNat) (by omega)
  have ha2 := fun W => run_string_add_sum (P := Try.prog) W s t (by omega)
  go_wp2_with fail
  generalize w12.heap.size = gV at *
  generalize w12.alloc (.cells #[.string t, .string noT] 26) = W12 at *
  clear pD pX pY pZ pU pV
  have HB : Hid (Below w.heap.size w W12) := B1
  clear B1
  unfold noT at D1 Y1 U1 V1
  clear Z1
  have hm0 : (0 : Int) ≤ min n (t.size : Int) := by omega
  have hm1 : min n (t.size : Int) ≤ (t.size : Int) := by omega
  simp only [List.append]
  go_region_held3 (fun w' => w'.cell? ⟨g, 0, none⟩ = some (.string s) ∧ w'.cell? ⟨g, 1, none⟩ = some (.string ⟨#[]⟩) ∧ w'.cell? ⟨gX, 0, none⟩ = some (.string s) ∧ w'.cell? ⟨gX, 1, none⟩ = some (.string t) ∧ w'.cell? ⟨gY, 0, none⟩ = some (.string (s ++ t.extract 0 (min n (t.size : Int)).toNat)) ∧ w'.cell? ⟨gY, 1, none⟩ = some (.string ⟨#[]⟩) ∧ w'.cell? ⟨gZ, 0, none⟩ = some (.string (s ++ t)) ∧ w'.cell? ⟨gU, 0, none⟩ = some (.string s) ∧ w'.cell? ⟨gU, 1, none⟩ = some (.string ⟨#[]⟩) ∧ w'.cell? ⟨gV, 0, none⟩ = some (.string t) ∧ w'.cell? ⟨gV, 1, none⟩ = some (.string ⟨#[]⟩))
    (first | (exact ⟨D0, D1, X0, X1, Y0, Y1, Z0, U0, U1, V0, V1⟩) | (refine ⟨?_, ?_, ?_, ?_, ?_, ?_, ?_, ?_, ?_, ?_, ?_⟩ <;> (apply cellsD (by assumption); assumption)) | go_keep)
    (first | (go_at_call 17; refine (k8 _).mono ?_; rintro e w1 ⟨rfl, b1⟩))
  go_wp2
  go_ret
  exact ⟨rfl, belD (drewD HB.out) b1⟩
end Go.Proofs.Ytkfaodbkgahgbaa
