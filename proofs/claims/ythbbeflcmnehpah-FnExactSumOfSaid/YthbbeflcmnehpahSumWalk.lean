/-
  FnExactSumOf: at every text the program's SumOf answers as the specification's: the law's walk over the contracts.
-/
import Derived.Test.YthbbeflcmnehpahSum
namespace Go.Proofs.Ythbbeflcmnehpah
open Go.RowKit

set_option maxHeartbeats 1000000 in
theorem fnExactSumOf_walk (a0 : ByteArray) (w0 : a0.size ≤ maxLen) (w : World) :
    Calls Try.prog 3 #[.string a0] w fun e w' => e = .returned (.bool true) ∧ Below w.heap.size w w' := by
  have w1 := w0
  unfold maxLen at w1
  by_cases hb : 1048576 < a0.size
  · go_enter Try.func3, Try.ntmps3
    go_wp2
    go_ret
    exact ⟨rfl, Below.refl _ _⟩
  by_cases hl : 65536 < a0.size
  · go_enter Try.func3, Try.ntmps3
    go_wp2_with fail
    refine (specSumOf_long a0 _ w0 hl).mono ?_
    rintro e w1 ⟨rfl, rfl⟩
    go_wp2_with fail
    refine (implSumOf_long a0 _ w0 hl).mono ?_
    rintro e w2 ⟨rfl, rfl⟩
    go_wp2
    go_ret
    exact ⟨rfl, Below.refl _ _⟩
  · have hl' : a0.size ≤ 65536 := by omega
    go_enter Try.func3, Try.ntmps3
    go_wp2_with fail
    refine (specSumOf_any a0 _ hl').mono ?_
    rintro e w1 ⟨rfl, rfl⟩
    go_wp2_with fail
    refine (implSumOf_any a0 _ hl').mono ?_
    rintro e w2 ⟨rfl, rfl⟩
    generalize sumTo a0 a0.size = n
    go_wp2
    go_ret
    exact ⟨rfl, Below.refl _ _⟩
end Go.Proofs.Ythbbeflcmnehpah
