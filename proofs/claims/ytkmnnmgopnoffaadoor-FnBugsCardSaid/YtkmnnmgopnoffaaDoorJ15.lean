/-
  FnBugs, part 15 of 50 (Digits).
-/
import Derived.Test.YtkmnnmgopnoffaaDoorJ13
import Derived.Test.YtkmnnmgopnoffaaDoorJ14
import Derived.Laws.OwnMore

/-
  One digit's text: the program's strconv.Itoa and the specification's l00Digits at 0 to 9.
-/
namespace Go.Proofs.YtkmnnmgopnoffaaDoor
open Go.RowKit

/-- A digit's text. -/
def digT (n : Nat) : ByteArray := strOfNums [48 + (n : Int)]

set_option maxHeartbeats 8000000 in
set_option maxRecDepth 100000 in
theorem itoa_digit (n : Nat) (hn : n < 10) (w : World) : Calls Tryd.prog 122 #[.int .i64 n] w fun e w' => e = .returned (.string (digT n)) ∧ w = w' := by
  have hc : n = 0 ∨ n = 1 ∨ n = 2 ∨ n = 3 ∨ n = 4 ∨ n = 5 ∨ n = 6 ∨ n = 7 ∨ n = 8 ∨ n = 9 := by omega
  clear hn
  rcases hc with rfl | rfl | rfl | rfl | rfl | rfl | rfl | rfl | rfl | rfl
  all_goals
    go_enter Tryd.func122, Tryd.ntmps122
    go_wp2
    go_ret
    exact ⟨rfl, rfl⟩

set_option maxHeartbeats 8000000 in
set_option maxRecDepth 100000 in
theorem l00Digits_digit (n : Nat) (hn : n < 10) (w : World) : Calls Tryd.prog 138 #[.int .i64 n] w fun e w' => e = .returned (.string (digT n)) ∧ Below w.heap.size w w' := by
  have R : (w.alloc (.cells #[.int .u8 (48 + (n : Int))] 5)).ownsRow w.heap.size 5 1 (.slice (some ⟨w.heap.size, 0, none⟩) 1 1) 1 (u8s [48 + (n : Int)]) := World.ownsRow_lit w #[.int .u8 (48 + (n : Int))] 1 (Nat.le_refl _) (by unfold maxLen; omega) rfl
  have hcv := conv_owned R
  clear R
  go_enter Tryd.func138, Tryd.ntmps138
  go_wp2
  go_ret
  exact ⟨rfl, by go_grown⟩
end Go.Proofs.YtkmnnmgopnoffaaDoor
