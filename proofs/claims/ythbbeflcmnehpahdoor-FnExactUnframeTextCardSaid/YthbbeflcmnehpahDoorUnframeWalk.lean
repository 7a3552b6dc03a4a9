/-
  FnExactUnframeText: at every text the program's UnframeText answers as the specification's: the law's walk over the contracts.
-/
import Derived.Test.YthbbeflcmnehpahDoorUnframe2
import Derived.Test.YthbbeflcmnehpahDoorErrLaid
namespace Go.Proofs.YthbbeflcmnehpahDoor
open Go.RowKit

set_option maxHeartbeats 1000000 in
theorem fnExactUnframeText_walk (a0 : ByteArray) (w0 : a0.size ≤ maxLen) (w : World) (hE : ErrType w) :
    Calls Tryd.prog 4 #[.string a0] w fun e w' => e = .returned (.bool true) ∧ Below w.heap.size w w' := by
  unfold maxLen at w0
  by_cases hb : 1048576 < a0.size
  · go_enter Tryd.func4, Tryd.ntmps4
    go_wp2
    go_ret
    exact ⟨rfl, Below.refl _ _⟩
  have hb' : a0.size ≤ 1048576 := by omega
  clear hb w0
  by_cases hl : 65536 < a0.size
  · go_enter Tryd.func4, Tryd.ntmps4
    go_wp2_with fail
    refine (specUnframeText_long a0 _ hb' hl).mono ?_
    rintro e w1 ⟨rfl, rfl⟩
    go_wp2_with fail
    refine (implUnframeText_long a0 _ hb' hl).mono ?_
    rintro e w2 ⟨rfl, rfl⟩
    go_wp2
    go_ret
    exact ⟨rfl, Below.refl _ _⟩
  · have hl' : a0.size ≤ 65536 := by omega
    clear hl hb'
    go_enter Tryd.func4, Tryd.ntmps4
    go_wp2_with fail
    refine (specUnframeText_any a0 _ hl').mono ?_
    rintro e w1 ⟨hu1, hb1⟩
    have hE1 := hE.below hb1
    obtain ⟨x, b, c, rfl⟩ := hu1.shape
    have H1 : Hid (Unframed a0 (.returned (.tuple #[.string x, .int .i64 b, .int .i64 c]))) := hu1
    clear hu1
    go_wp2_with fail
    refine (implUnframeText_any a0 _ hl' hE1).mono ?_
    rintro e w2 ⟨hu2, hb2⟩
    obtain rfl := H1.out.same hu2
    clear hu2 H1
    go_wp2
    go_ret
    exact ⟨rfl, sub_trans hb1 hb2⟩
theorem fnExactUnframeText_laid {W : World} (h : laidMetH Tryd.prog Rows.fnExactUnframeTextRow.laid W) : ErrType W := errType_of_laid rfl h
theorem fnExactUnframeText_door_met (os : Os) (args : Array Value) : laidMetH Tryd.prog Rows.fnExactUnframeTextRow.laid ((World.doorLaid Tryd.prog 400 os).forCall (fun _ _ => 0) ⟨#[], args, []⟩).memory :=
  laidMetH_of_parts3 (fuel := 8) (laidMet_of_run' 8 (by kernel_rfl) (by kernel_rfl)) (by kernel_rfl) (by kernel_rfl)
end Go.Proofs.YthbbeflcmnehpahDoor
