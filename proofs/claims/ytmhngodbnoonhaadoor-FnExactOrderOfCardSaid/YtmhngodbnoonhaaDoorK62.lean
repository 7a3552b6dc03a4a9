/-
  Joined: OrEnd.
-/
import Derived.Test.YtmhngodbnoonhaaDoorK61
import Derived.Test.YtmhngodbnoonhaaDoorK47

/-
  FnExactOrderOf: the walk over what both answer, and what the row's condition on vmShape gives it.
-/
namespace Go.Proofs.YtmhngodbnoonhaaDoor
open Go.RowKit

theorem fnExactOrderOf_walk (a0 : Option Addr) (n0 c0 : Nat) (r0 : List (List I3)) (a1 : Option Addr) (n1 c1 : Nat) (z1 : List Int) (w : World) (h0 : Codes w a0 n0 c0 r0) (h1 : IsRow .i64 w a1 n1 c1 z1) (hG : VmShape w) :
    Calls Tryd.prog 7 #[.agg #[.slice a0 n0 c0], .slice a1 n1 c1] w fun e w' => e = .returned (.bool true) ∧ Below w.heap.size w w' :=
  fnExactOrderOf_of a0 n0 c0 r0 a1 n1 c1 (z1.take n1) (ordL (evE r0 (z1.take n1))) (by have h1 := evE_len9 r0 (z1.take n1); rw [ordL_len]; exact Nat.mul_le_mul h1 h1) (evK r0 (z1.take n1)) w h0 (Ints.of_isRow h1) hG
    (fun a n c la ln lc w hC hL => specOrderOf_is a n c r0 la ln lc _ w hC hL)
    (fun a n c la ln lc w hC hL hV => implOrderOf_is a n c r0 la ln lc _ w hC hV hL)

theorem fnExactOrderOf_laid {W : World} (h : laidMetH Tryd.prog Rows.fnExactOrderOfRow.laid W) : VmShape W := vmShape_of_laid rfl h
theorem fnExactOrderOf_door_met (os : Os) (args : Array Value) : laidMetH Tryd.prog Rows.fnExactOrderOfRow.laid ((World.doorLaid Tryd.prog 400 os).forCall (fun _ _ => 0) ⟨#[], args, []⟩).memory :=
  laidMetH_of_parts3 (fuel := 8) (laidMet_of_run' 8 (by kernel_rfl) (by kernel_rfl)) (by kernel_rfl) (by kernel_rfl)
end Go.Proofs.YtmhngodbnoonhaaDoor
