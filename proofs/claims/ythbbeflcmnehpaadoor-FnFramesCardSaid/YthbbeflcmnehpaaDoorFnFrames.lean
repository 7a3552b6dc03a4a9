/-
  FnFrames: a frame gives its text back, and tells where it ends; with another byte in its text it is none, unless the sum is alike: the law's walk over the contracts, at every two codes.
-/
import Derived.Test.YthbbeflcmnehpaaDoorFramesPlain
import Derived.Test.YthbbeflcmnehpaaDoorUnframeI
import Derived.Test.YthbbeflcmnehpaaDoorSum
import Derived.Test.YthbbeflcmnehpaaDoorDrawn
import Derived.Test.YthbbeflcmnehpaaDoorAt
import Derived.Test.YthbbeflcmnehpaaDoorRowBelow
import Derived.Test.YthbbeflcmnehpaaDoorErrLaid
import Derived.BigRegion
namespace Go.Proofs.YthbbeflcmnehpaaDoor
open Go.RowKit

theorem errType_drew' {w : World} (h : ErrType w) (d : Nat) : ErrType (w.drewN d) := h
theorem conv_one (y : Int) (g cap : Nat) (W : World) (h0 : W.cell? ⟨g, 0, none⟩ = some (.int .u8 y)) :
    (convert 22 9 (.slice (some ⟨g, 0, none⟩) 1 cap)).run Tryd.prog W = .ok (.string (strOfNums [y])) W := by
  refine run_convert_bytes_arg W 22 5 Tryd.underlying22 Tryd.underlying5 g 0 1 cap [y] rfl (fun i hi => ?_) 9 Tryd.underlying9
  obtain rfl : i = 0 := by omega
  simpa using h0

set_option maxHeartbeats 8000000 in
set_option maxRecDepth 100000 in
theorem fnFrames_walk (a0 : Option Addr) (len0 cap0 : Nat) (z0 : List Int) (a1 : Option Addr) (len1 cap1 : Nat) (z1 : List Int) (w : World) (h0 : IsRow .u8 w a0 len0 cap0 z0) (h1 : IsRow .u8 w a1 len1 cap1 z1) (hE : ErrType w) :
    Calls Tryd.prog 4 #[.slice a0 len0 cap0, .slice a1 len1 cap1] w fun e w' => e = .returned (.bool true) ∧ Below w.heap.size w w' := by
  have m0 := h0.len_le
  have m1 := h1.len_le
  unfold maxLen at m0 m1
  by_cases hb0 : 1048576 < len0
  · go_enter Tryd.func4, Tryd.ntmps4
    go_wp2
    go_ret
    exact ⟨rfl, Below.refl _ _⟩
  by_cases hb1 : 1048576 < len1
  · go_enter Tryd.func4, Tryd.ntmps4
    go_wp2
    go_ret
    exact ⟨rfl, Below.refl _ _⟩
  have l0 : len0 ≤ 1048576 := by omega
  have l1 : len1 ≤ 1048576 := by omega
  clear hb0 hb1 m0 m1
  go_enter Tryd.func4, Tryd.ntmps4
  go_wp2_with fail
  refine (at_any _ _ _ z0 0 30 _ h0 l0 (by omega) (by omega) (by omega)).mono ?_
  rintro e w1 ⟨⟨c1, hc1, rfl⟩, d1, rfl⟩
  have hc30 : c1 ≤ 29 := by omega
  clear hc1
  have r0 := h0.drew d1
  have r1 := h1.drew d1
  have hE1 := errType_drew' hE d1
  have B1 : Below w.heap.size w (w.drewN d1) := below_drewN (Below.refl _ _) d1
  clear h0 h1 hE
  generalize w.drewN d1 = W1 at *
  go_wp2_with fail
  rw [show (1 : Int) + (c1 : Int) = ((1 + c1 : Nat) : Int) from by omega]
  refine (textOf_any _ _ _ (1 + c1) z0 _ r0 l0 (by omega)).mono ?_
  rintro e w2 ⟨⟨ys, hyl, hyb, rfl⟩, b2⟩
  have hE2 := hE1.below b2
  have r2 := r1.below b2
  have B2 := sub_trans B1 b2
  have hts : (strOfNums ys).size = 1 + c1 := by rw [strOfNums_size]; exact hyl
  clear hyl hyb r0 r1 hE1 B1 b2
  generalize strOfNums ys = t at *
  have hs1 : 1 ≤ t.size := by omega
  have hs30 : t.size ≤ 30 := by omega
  have h128 : t.size < 128 := by omega
  clear hts hc30
  go_wp2_with fail
  refine (implFrameText_ok t _ (by omega)).mono ?_
  rintro e w3 ⟨rfl, b3⟩
  have hE3 := hE2.below b3
  have r3 := r2.below b3
  have B3 := sub_trans B2 b3
  go_wp2_with fail
  refine (specFrameText_ok t _ (by omega)).mono ?_
  rintro e w4 ⟨rfl, b4⟩
  have hE4 := hE3.below b4
  have r4 := r3.below b4
  have B4 := sub_trans B3 b4
  clear hE2 hE3 r2 r3 B2 B3 b3 b4
  have hfs := frame_size h128
  have HM : Hid (Heads (frameOf t ++ ⟨#[109, 111, 114, 101]⟩) t) := heads_of h128 (by rw [ByteArray.size_append]; omega) (bt_app _ _ 0 (by omega)) (bt_app _ _ 1 (by omega)) (bt_app _ _ 2 (by omega))
  have HC : Hid (frameText (frameOf t ++ ⟨#[109, 111, 114, 101]⟩) t.size 1 = t) := by
    rw [Hid]; unfold frameText; exact frame_cut t _ h128
  have HB : Hid (∀ (u : ByteArray) (k : Nat), u.size = 1 → 3 ≤ k → k < (frameOf t).size → Heads ((frameOf t).extract 0 k ++ u ++ (frameOf t).extract (k + 1) (frameOf t).size) t) := by
    intro u k hu hk hk2
    refine heads_of h128 (by rw [bent_size _ u k hk2 hu]; omega) ?_ ?_ ?_
    · exact bent_bt _ u k 0 hk2 (by omega)
    · exact bent_bt _ u k 1 hk2 (by omega)
    · exact bent_bt _ u k 2 hk2 (by omega)
  have HS : Hid (NoFrame ((frameOf t).extract 0 ((frameOf t).size - 1))) := by
    have hz : ((frameOf t).extract 0 ((frameOf t).size - 1)).size = (frameOf t).size - 1 := by simp
    refine noFrame_short h128 (by omega) (by omega) ?_
    rw [bt_head _ _ _ (by omega) (by omega)]
    have hb := (frame_bytes h128).2 0 (by rw [headOf_short h128]; simp)
    rw [headOf_short h128] at hb
    simp at hb
    omega
  obtain ⟨f, hf⟩ : ∃ f, f = frameOf t := ⟨_, rfl⟩
  rw [← hf] at hfs HM HC HB HS
  rw [← hf]
  clear hf
  have hms : (⟨#[109, 111, 114, 101]⟩ : ByteArray).size = 4 := rfl
  have hadd := fun W => run_string_add_sum (P := Tryd.prog) W f ⟨#[109, 111, 114, 101]⟩ (by omega)
  have hads : (f ++ ⟨#[109, 111, 114, 101]⟩).size ≤ 65536 := by rw [ByteArray.size_append]; omega
  go_wp2_with fail
  refine (implUnframeText_any _ _ hads hE4).mono ?_
  rintro e w5 ⟨hu5, b5⟩
  have e5 := unframed_good hu5 (framed_heads h128 HM.out) (by rw [HC.out]; exact HM.out.2.2)
  rw [HC.out] at e5
  subst e5
  rw [show ((1 + 2 + t.size : Nat) : Int) = (f.size : Int) from by omega]
  have hE5 := hE4.below b5
  have r5 := r4.below b5
  have B5 := sub_trans B4 b5
  clear hu5 hadd hads hms HM HC hE4 r4 B4 b5
  have hfi : (f.size : Int) = (t.size : Int) + 3 := by omega
  have hne1 : ((f.size : Int) != (f.size : Int)) = false := by simp
  have hfl : ¬ (f.size : Int) < (t.size : Int) + 3 := by omega
  have Hfi : Hid ((f.size : Int) = (t.size : Int) + 3) := hfi
  have HFS : Hid (f.size = t.size + 3) := hfs
  have f1 : 3 ≤ f.size := by omega
  have f2 : f.size ≤ 33 := by omega
  clear hfi hfs
  go_wp2_with fail
  refine (at_any _ _ _ z1 0 _ _ r5 l1 (by omega) (by omega) (by omega)).mono ?_
  rintro e w6 ⟨⟨c6, hc6, rfl⟩, d6, rfl⟩
  have hE6 := errType_drew' hE5 d6
  have B6 := below_drewN B5 d6
  obtain ⟨k, hk⟩ : ∃ k : Nat, (f.size : Int) - 1 - (c6 : Int) = (k : Int) := ⟨f.size - 1 - c6, by have := HFS.out; omega⟩
  have hk3 : 3 ≤ k := by have := HFS.out; omega
  have hkf : k < f.size := by omega
  clear hc6 r5 hE5 B5
  generalize w5.drewN d6 = W6 at *
  go_wp2_with fail
  have hki : (k : Int) < (f.size : Int) := by omega
  have hq1 : IntKind.i64.wrap ((k : Int) + 1) = (k : Int) + 1 := IntWalk.i64_in _ ⟨by omega, by omega⟩
  obtain ⟨y, hy⟩ : ∃ y : Int, y = bits BinOp.xor IntKind.u8 ((f[k]'hkf).toNat : Int) 1 := ⟨_, rfl⟩
  have hxor : bits BinOp.xor IntKind.u8 ((f[k]'hkf).toNat : Int) 1 = y := hy.symm
  clear hy
  have hcv := fun g cap W h0 => conv_one y g cap W h0
  have hu : (strOfNums [y]).size = 1 := rfl
  have z1s : (f.extract 0 k).size = k := by simp; omega
  have z2s : (f.extract (k + 1) f.size).size = f.size - (k + 1) := by simp
  have ha1 := fun W => run_string_add_sum (P := Tryd.prog) W (f.extract 0 k) (strOfNums [y]) (by omega)
  have z3s : (f.extract 0 k ++ strOfNums [y]).size = k + 1 := by rw [ByteArray.size_append]; omega
  have ha2 := fun W => run_string_add_sum (P := Tryd.prog) W (f.extract 0 k ++ strOfNums [y]) (f.extract (k + 1) f.size) (by omega)
  have HBT : Hid (Heads (f.extract 0 k ++ strOfNums [y] ++ f.extract (k + 1) f.size) t) := HB.out _ k hu hk3 hkf
  have hbs := bent_size f (strOfNums [y]) k hkf hu
  have HBS : Hid ((f.extract 0 k ++ strOfNums [y] ++ f.extract (k + 1) f.size).size = f.size) := hbs
  clear hbs HB z1s z2s z3s hk
  have bX : Below W6.heap.size W6 (W6.alloc (Obj.cells #[Value.int IntKind.u8 y] 5)).drew := ((Below.refl _ _).alloc (Nat.le_refl _) _).drew
  have hEX := hE6.below bX
  have BX := B6.trans (bX.mono B6.size)
  go_region
  go_wp2_with fail
  clear hcv ha1 ha2 hxor hq1 hE6 B6 bX
  obtain ⟨bent, hbent⟩ : ∃ bent, bent = f.extract 0 k ++ strOfNums [y] ++ f.extract (k + 1) f.size := ⟨_, rfl⟩
  rw [← hbent] at HBT HBS
  rw [← hbent]
  clear hbent hu
  generalize (W6.alloc (Obj.cells #[Value.int IntKind.u8 y] 5)).drew = WX at *
  have hbz : bent.size ≤ 33 := by rw [HBS.out]; omega
  have hbz3 : 3 ≤ bent.size := by rw [HBS.out]; omega
  have HFT : Hid (frameText bent t.size 1 = bent.extract 3 bent.size) := by
    rw [Hid]
    unfold frameText
    rw [show 1 + 2 + t.size = bent.size by have := HBS.out; have := HFS.out; omega]
  have hfr := framed_heads h128 HBT.out
  obtain ⟨g, hg⟩ : ∃ g, g = bent.extract 3 bent.size := ⟨_, rfl⟩
  have hgs : g.size ≤ 65536 := by rw [hg]; simp; omega
  have HSUM : Hid (sumAt bent 1 = sumTo t t.size) := HBT.out.2.2
  have Hfr : Hid (Framed bent t.size 1) := hfr
  clear hfr
  have HG : Hid (bent.extract 3 bent.size = g) := hg.symm
  clear hg
  have hsm := sum_lt t
  have hts' : t.size ≤ 65536 := by omega
  have hfe : (f.extract 0 (f.size - 1)).size ≤ 65536 := by simp; omega
  refine (implUnframeText_any bent _ (by omega) hEX).mono ?_
  rintro e w7 ⟨hu7, b7⟩
  have hE7 := hEX.below b7
  have B7 := sub_trans BX b7
  by_cases hsame : sumTo g g.size = sumTo t t.size
  all_goals
    first
      | (have e7 := unframed_good hu7 Hfr.out (by rw [HFT.out, HG.out, HSUM.out, hsame])
         have hcmp : (sumTo g g.size == sumTo t t.size) = true := by simp [hsame])
      | (have e7 := unframed_bad hu7 Hfr.out (by rw [HFT.out, HG.out, HSUM.out]; exact fun h => hsame h.symm)
         have hcmp : (sumTo g g.size == sumTo t t.size) = false := by simp [hsame])
    subst e7
    clear hu7 hEX BX b7 Hfr HSUM HFT HBT HBS hsame
    go_wp2_with fail
    refine (implUnframeText_any _ _ hfe hE7).mono ?_
    rintro e w8 ⟨hu8, b8⟩
    obtain rfl := unframed_none hu8 HS.out
    have B8 := sub_trans B7 b8
    clear hu8 hE7 B7 b8 HS
    go_wp2_with fail
    rw [HG.out]
    refine (implSumOf_any g _ hgs).mono ?_
    rintro e w9 ⟨rfl, rfl⟩
    go_wp2_with fail
    refine (implSumOf_any t _ hts').mono ?_
    rintro e w10 ⟨rfl, rfl⟩
    generalize sumTo g g.size = sg at *
    go_wp2_with fail
    refine (implSumOf_any t _ hts').mono ?_
    rintro e w11 ⟨rfl, rfl⟩
    go_wp2_with fail
    refine (specSumOf_any t _ hts').mono ?_
    rintro e w12 ⟨rfl, rfl⟩
    generalize sumTo t t.size = st at *
    go_wp2
    go_ret
    exact ⟨rfl, B8⟩
theorem fnFrames_laid {W : World} (h : laidMetH Tryd.prog Rows.fnFramesRow.laid W) : ErrType W := errType_of_laid rfl h
theorem fnFrames_door_met (os : Os) (args : Array Value) : laidMetH Tryd.prog Rows.fnFramesRow.laid ((World.doorLaid Tryd.prog 400 os).forCall (fun _ _ => 0) ⟨#[], args, []⟩).memory :=
  laidMetH_of_parts3 (fuel := 8) (laidMet_of_run' 8 (by kernel_rfl) (by kernel_rfl)) (by kernel_rfl) (by kernel_rfl)
end Go.Proofs.YthbbeflcmnehpaaDoor
