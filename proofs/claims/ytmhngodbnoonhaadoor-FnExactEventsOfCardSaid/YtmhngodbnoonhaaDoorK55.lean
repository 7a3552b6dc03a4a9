/-
  Joined: EvEnd.
-/
import Derived.Test.YtmhngodbnoonhaaDoorK54
import Derived.Test.YtmhngodbnoonhaaDoorK46
import Derived.Test.YtmhngodbnoonhaaDoorK47

/-
  FnExactEventsOf: the walk over what both answer, and what the row's condition on vmShape gives it.
-/
namespace Go.Proofs.YtmhngodbnoonhaaDoor
open Go.RowKit

theorem fnExactEventsOf_walk (a0 : Option Addr) (n0 c0 : Nat) (r0 : List (List I3)) (a1 : Option Addr) (n1 c1 : Nat) (z1 : List Int) (w : World) (h0 : Codes w a0 n0 c0 r0) (h1 : IsRow .i64 w a1 n1 c1 z1) (hG : VmShape w) :
    Calls Tryd.prog 6 #[.agg #[.slice a0 n0 c0], .slice a1 n1 c1] w fun e w' => e = .returned (.bool true) ∧ Below w.heap.size w w' :=
  fnExactEventsOf_of a0 n0 c0 r0 a1 n1 c1 (z1.take n1) (evE r0 (z1.take n1)) (by have := evE_len r0 (z1.take n1); omega) (evK r0 (z1.take n1)) w h0 (Ints.of_isRow h1) hG
    (fun a n c la ln lc w hC hL => specEventsOf_is a n c r0 la ln lc _ w hC hL)
    (fun a n c la ln lc w hC hL hV => implEventsOf_is a n c r0 la ln lc _ w hC hV hL)

theorem fnExactEventsOf_laid {W : World} (h : laidMetH Tryd.prog Rows.fnExactEventsOfRow.laid W) : VmShape W := vmShape_of_laid rfl h
theorem fnExactEventsOf_door_met (os : Os) (args : Array Value) : laidMetH Tryd.prog Rows.fnExactEventsOfRow.laid ((World.doorLaid Tryd.prog 400 os).forCall (fun _ _ => 0) ⟨#[], args, []⟩).memory :=
  laidMetH_of_parts3 (fuel := 8) (laidMet_of_run' 8 (by kernel_rfl) (by kernel_rfl)) (by kernel_rfl) (by kernel_rfl)
end Go.Proofs.YtmhngodbnoonhaaDoor
