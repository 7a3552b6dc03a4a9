/-
  The program's PackNumber: the bytes 'pack n' of a number from 0 to 999999999, ErrRange of any other.
-/
import Derived.Test.YthbbeflcmnehpaaDoorNum
import Derived.Test.YthbbeflcmnehpaaDoorNumOK
namespace Go.Proofs.YthbbeflcmnehpaaDoor
open Go.RowKit

set_option maxHeartbeats 1000000 in
theorem implPackNumber_yes (n : Nat) (w : World) (hn : n ≤ 999999999) :
    Calls Tryd.prog 10 #[.int .i64 n] w fun e w' => e = .returned (.tuple #[.string (strOfNums (pack n)), .int .i64 0]) ∧ Below w.heap.size w w' := by
  go_enter Tryd.func10, Tryd.ntmps10
  go_wp2_with (first | (go_at_call 23; refine (numberOK_yes _ _ (by omega)).mono ?_; rintro e w' ⟨rfl, rfl⟩) | (go_at_call 22; refine (appendNumber_any w.heap.size 0 _ [] n _ hn (World.ownsRow_nil _ _ _ _) (Nat.le_refl _) (by omega)).mono ?_; rintro e w' ⟨v', rfl, hown, hbel⟩; have hcv := conv_owned hown; clear hown; rw [List.nil_append] at hcv))
  go_ret2
  exact ⟨rfl, hbel⟩
theorem implPackNumber_no (n : Int) (w : World) (hn : ¬ (0 ≤ n ∧ n ≤ 999999999)) :
    Calls Tryd.prog 10 #[.int .i64 n] w fun e w' => e = .returned (.tuple #[.string ByteArray.empty, .int .i64 4]) ∧ w = w' := by
  go_enter Tryd.func10, Tryd.ntmps10
  go_wp2_with (go_at_call 23; refine (numberOK_no _ _ hn).mono ?_; rintro e w' ⟨rfl, rfl⟩)
  go_ret2
  exact ⟨rfl, rfl⟩
end Go.Proofs.YthbbeflcmnehpaaDoor
