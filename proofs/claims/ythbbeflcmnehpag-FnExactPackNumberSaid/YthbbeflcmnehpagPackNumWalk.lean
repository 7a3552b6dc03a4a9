/-
  FnExactPackNumber: at every integer the program's PackNumber answers as the specification's: the law's walk over the contracts.
-/
import Derived.Test.YthbbeflcmnehpagPackNum
namespace Go.Proofs.Ythbbeflcmnehpag
open Go.RowKit

set_option maxHeartbeats 1000000 in
theorem fnExactPackNumber_walk (a0 : Int) (_w0 : (Lit.int .i64 a0).wf = true) (w : World) :
    Calls Try.prog 4 #[.int .i64 a0] w fun e w' => e = .returned (.bool true) ∧ Below w.heap.size w w' := by
  by_cases hr : 0 ≤ a0 ∧ a0 ≤ 999999999
  · obtain ⟨n, rfl⟩ := Int.eq_ofNat_of_zero_le hr.1
    have hn : n ≤ 999999999 := by omega
    go_enter Try.func4, Try.ntmps4
    go_wp2_with fail
    refine (specPackNumber_yes n _ hn).mono ?_
    rintro e w1 ⟨rfl, hb1⟩
    go_wp2_with fail
    refine (implPackNumber_yes n _ hn).mono ?_
    rintro e w2 ⟨rfl, hb2⟩
    go_wp2
    go_ret
    exact ⟨rfl, hb1.trans (hb2.mono hb1.size)⟩
  · go_enter Try.func4, Try.ntmps4
    go_wp2_with fail
    refine (specPackNumber_no a0 _ hr).mono ?_
    rintro e w1 ⟨rfl, rfl⟩
    go_wp2_with fail
    refine (implPackNumber_no a0 _ hr).mono ?_
    rintro e w2 ⟨rfl, rfl⟩
    go_wp2
    go_ret
    exact ⟨rfl, Below.refl _ _⟩
end Go.Proofs.Ythbbeflcmnehpag
