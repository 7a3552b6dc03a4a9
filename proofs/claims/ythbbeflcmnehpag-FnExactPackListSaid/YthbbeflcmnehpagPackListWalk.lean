/-
  FnExactPackList: at every list of integers the program's PackList answers as the specification's, and leaves the list alone: the law's walk over the contracts.
-/
import Derived.Test.YthbbeflcmnehpagPackList2
namespace Go.Proofs.Ythbbeflcmnehpag
open Go.RowKit

theorem sub_trans {a b c : World} (h : Below a.heap.size a b) (k : Below b.heap.size b c) : Below a.heap.size a c := h.trans (k.mono h.size)
theorem below_drewN' {a b : World} (h : Below a.heap.size a b) (d : Nat) : Below a.heap.size a (b.drewN d) := h.trans ⟨rfl, rfl, rfl, Nat.le_refl _, fun _ _ => rfl⟩

set_option maxHeartbeats 2000000 in
set_option maxRecDepth 100000 in
theorem fnExactPackList_walk (a0 : Option Addr) (len0 cap0 : Nat) (z0 : List Int) (w : World) (w0 : IsRow .i64 w a0 len0 cap0 z0) :
    Calls Try.prog 5 #[.slice a0 len0 cap0] w fun e w' => e = .returned (.bool true) ∧ Below w.heap.size w w' := by
  have hI := Ints.of_isRow w0
  clear w0
  have hcm := hI.2.2.1
  have hlc := hI.2.1
  unfold maxLen at hcm
  generalize z0.take len0 = zs at hI
  by_cases hbig : 1048576 < len0
  · go_enter Try.func5, Try.ntmps5
    go_wp2
    go_ret
    exact ⟨rfl, Below.refl _ _⟩
  have hlen : len0 ≤ 1048576 := by omega
  clear hbig
  by_cases h4 : 4096 < len0
  · go_enter Try.func5, Try.ntmps5
    go_wp2_with fail
    refine (toIntS_any _ _ _ zs _ hI hlen).mono ?_
    rintro e w1 ⟨rfl, ho1, hb1⟩
    have hI1 := hI.below hb1
    go_wp2_with fail
    refine (specPackList_long _ _ _ _ hlen h4).mono ?_
    rintro e w2 ⟨rfl, rfl⟩
    go_wp2_with fail
    refine (toIntS_any _ _ _ zs _ hI1 hlen).mono ?_
    rintro e w3 ⟨rfl, ho3, hb3⟩
    have hI3 := hI1.below hb3
    have hX := Ints.of_owns ho3
    go_wp2_with fail
    refine (implPackList_long _ _ _ _ hlen h4).mono ?_
    rintro e w4 ⟨rfl, rfl⟩
    go_wp2_with fail
    refine (toIntS_any _ _ _ zs _ hI3 hlen).mono ?_
    rintro e w5 ⟨rfl, ho5, hb5⟩
    go_wp2_with fail
    refine (eqIntS_same _ _ _ _ _ zs _ (hX.below hb5) (Ints.of_owns ho5)).mono ?_
    rintro e w6 ⟨rfl, d, rfl⟩
    go_wp2
    go_ret
    exact ⟨rfl, below_drewN' (sub_trans (sub_trans hb1 hb3) hb5) d⟩
  have h4' : len0 ≤ 4096 := by omega
  clear h4
  by_cases hok : allOk zs
  · go_enter Try.func5, Try.ntmps5
    go_wp2_with fail
    refine (toIntS_any _ _ _ zs _ hI hlen).mono ?_
    rintro e w1 ⟨rfl, ho1, hb1⟩
    go_wp2_with fail
    refine (specPackList_ok _ _ _ zs _ (Ints.of_owns ho1) h4' hok).mono ?_
    rintro e w2 ⟨rfl, hb2⟩
    have hI2 := (hI.below hb1).below hb2
    go_wp2_with fail
    refine (toIntS_any _ _ _ zs _ hI2 hlen).mono ?_
    rintro e w3 ⟨rfl, ho3, hb3⟩
    have hI3 := hI2.below hb3
    have hX := Ints.of_owns ho3
    go_wp2_with fail
    refine (implPackList_any _ _ _ zs _ hX h4').mono ?_
    rintro e w4 ⟨he, hb4⟩
    obtain rfl : e = .returned (.tuple #[.string (strOfNums (packL zs)), .int .i64 0]) := by
      rcases he with ⟨_, he⟩ | ⟨hn, _⟩
      · exact he
      · exact absurd hok hn
    clear he
    have hI4 := hI3.below hb4
    go_wp2_with fail
    refine (toIntS_any _ _ _ zs _ hI4 hlen).mono ?_
    rintro e w5 ⟨rfl, ho5, hb5⟩
    go_wp2_with fail
    refine (eqIntS_same _ _ _ _ _ zs _ ((hX.below hb4).below hb5) (Ints.of_owns ho5)).mono ?_
    rintro e w6 ⟨rfl, d, rfl⟩
    go_wp2
    go_ret
    exact ⟨rfl, below_drewN' (sub_trans (sub_trans (sub_trans (sub_trans hb1 hb2) hb3) hb4) hb5) d⟩
  · go_enter Try.func5, Try.ntmps5
    go_wp2_with fail
    refine (toIntS_any _ _ _ zs _ hI hlen).mono ?_
    rintro e w1 ⟨rfl, ho1, hb1⟩
    go_wp2_with fail
    refine (specPackList_bad _ _ _ zs _ (Ints.of_owns ho1) h4' hok).mono ?_
    rintro e w2 ⟨rfl, hb2⟩
    have hI2 := (hI.below hb1).below hb2
    go_wp2_with fail
    refine (toIntS_any _ _ _ zs _ hI2 hlen).mono ?_
    rintro e w3 ⟨rfl, ho3, hb3⟩
    have hI3 := hI2.below hb3
    have hX := Ints.of_owns ho3
    go_wp2_with fail
    refine (implPackList_any _ _ _ zs _ hX h4').mono ?_
    rintro e w4 ⟨he, hb4⟩
    obtain rfl : e = .returned (.tuple #[.string ByteArray.empty, .int .i64 4]) := by
      rcases he with ⟨hn, _⟩ | ⟨_, he⟩
      · exact absurd hn hok
      · exact he
    clear he
    have hI4 := hI3.below hb4
    go_wp2_with fail
    refine (toIntS_any _ _ _ zs _ hI4 hlen).mono ?_
    rintro e w5 ⟨rfl, ho5, hb5⟩
    go_wp2_with fail
    refine (eqIntS_same _ _ _ _ _ zs _ ((hX.below hb4).below hb5) (Ints.of_owns ho5)).mono ?_
    rintro e w6 ⟨rfl, d, rfl⟩
    go_wp2
    go_ret
    exact ⟨rfl, below_drewN' (sub_trans (sub_trans (sub_trans (sub_trans hb1 hb2) hb3) hb4) hb5) d⟩
end Go.Proofs.Ythbbeflcmnehpag
