/-
  Joined: WitEnd.
-/
import Derived.Test.YtmhngodbnoonhaaDoorK56
import Derived.Test.YtmhngodbnoonhaaDoorK57
import Derived.Test.YtmhngodbnoonhaaDoorK47

/-
  FnExactIsWitness: the walk over what both answer, and what the row's condition on vmShape gives it.
-/
namespace Go.Proofs.YtmhngodbnoonhaaDoor
open Go.RowKit

theorem fnExactIsWitness_walk (a0 : Option Addr) (n0 c0 : Nat) (r0 : List (List I3)) (a1 : Option Addr) (n1 c1 : Nat) (z1 : List Int) (y2 : I3) (w : World) (h0 : Codes w a0 n0 c0 r0) (h1 : IsRow .i64 w a1 n1 c1 z1) (_h2 : y2.fits) (hG : VmShape w) :
    Calls Tryd.prog 5 #[.agg #[.slice a0 n0 c0], .slice a1 n1 c1, y2.val] w fun e w' => e = .returned (.bool true) ∧ Below w.heap.size w w' :=
  fnExactIsWitness_of a0 n0 c0 r0 a1 n1 c1 y2 (z1.take n1) (witV r0 (z1.take n1) y2) (witC r0 (z1.take n1) y2) w h0 (Ints.of_isRow h1) hG
    (fun a n c la ln lc w hC hL => specIsWitness_is a n c r0 la ln lc _ y2 w hC hL)
    (fun a n c la ln lc w hC hL hV => implIsWitness_is a n c r0 la ln lc _ y2 w hC hV hL)

theorem fnExactIsWitness_laid {W : World} (h : laidMetH Tryd.prog Rows.fnExactIsWitnessRow.laid W) : VmShape W := vmShape_of_laid rfl h
theorem fnExactIsWitness_door_met (os : Os) (args : Array Value) : laidMetH Tryd.prog Rows.fnExactIsWitnessRow.laid ((World.doorLaid Tryd.prog 400 os).forCall (fun _ _ => 0) ⟨#[], args, []⟩).memory :=
  laidMetH_of_parts3 (fuel := 8) (laidMet_of_run' 8 (by kernel_rfl) (by kernel_rfl)) (by kernel_rfl) (by kernel_rfl)
end Go.Proofs.YtmhngodbnoonhaaDoor
