/-
  FnExactFrameText: at every text the program's FrameText answers as the specification's: the law's walk over the contracts.
-/
import Derived.Test.YthbbeflcmnehpahFrame
namespace Go.Proofs.Ythbbeflcmnehpah
open Go.RowKit

set_option maxHeartbeats 1000000 in
theorem fnExactFrameText_walk (a0 : ByteArray) (w0 : a0.size ≤ maxLen) (w : World) :
    Calls Try.prog 4 #[.string a0] w fun e w' => e = .returned (.bool true) ∧ Below w.heap.size w w' := by
  have w1 := w0
  unfold maxLen at w1
  by_cases hb : 1048576 < a0.size
  · go_enter Try.func4, Try.ntmps4
    go_wp2
    go_ret
    exact ⟨rfl, Below.refl _ _⟩
  have hb' : a0.size ≤ 1048576 := by omega
  clear hb w1 w0
  by_cases hl : 65536 < a0.size
  · go_enter Try.func4, Try.ntmps4
    go_wp2_with fail
    refine (specFrameText_long a0 _ hb' hl).mono ?_
    rintro e w1 ⟨rfl, rfl⟩
    go_wp2_with fail
    refine (implFrameText_long a0 _ hb' hl).mono ?_
    rintro e w2 ⟨rfl, rfl⟩
    go_wp2
    go_ret
    exact ⟨rfl, Below.refl _ _⟩
  have hl' : a0.size ≤ 65536 := by omega
  clear hl hb'
  by_cases hz : 60000 < a0.size
  · go_enter Try.func4, Try.ntmps4
    go_wp2_with fail
    refine (specFrameText_size a0 _ hl' hz).mono ?_
    rintro e w1 ⟨rfl, rfl⟩
    go_wp2_with fail
    refine (implFrameText_size a0 _ hl' hz).mono ?_
    rintro e w2 ⟨rfl, rfl⟩
    go_wp2
    go_ret
    exact ⟨rfl, Below.refl _ _⟩
  have hz' : a0.size ≤ 60000 := by omega
  clear hz hl'
  go_enter Try.func4, Try.ntmps4
  go_wp2_with fail
  refine (specFrameText_ok a0 _ hz').mono ?_
  rintro e w1 ⟨rfl, hb1⟩
  go_wp2_with fail
  refine (implFrameText_ok a0 _ hz').mono ?_
  rintro e w2 ⟨rfl, hb2⟩
  generalize frameOf a0 = t
  go_wp2
  go_ret
  exact ⟨rfl, hb1.trans (hb2.mono hb1.size)⟩
end Go.Proofs.Ythbbeflcmnehpah
