/-
  FnExactNameOK: at every text the program's NameOK answers as the specification's: the law's walk over the two contracts.
-/
import Derived.Test.YthbbeflcmnehpagName3
namespace Go.Proofs.Ythbbeflcmnehpag
open Go.RowKit

theorem ans_same {b c : Bool} {P : Prop} (h : b = true ↔ P) (k : c = true ↔ P) : b = c := by
  cases b <;> cases c <;> simp_all

set_option maxHeartbeats 1000000 in
theorem fnExactNameOK_walk (a0 : ByteArray) (w0 : a0.size ≤ maxLen) (w : World) :
    Calls Try.prog 3 #[.string a0] w fun e w' => e = .returned (.bool true) ∧ Below w.heap.size w w' := by
  by_cases hb : 1048576 < a0.size
  · go_enter Try.func3, Try.ntmps3
    go_wp2
    go_ret
    exact ⟨rfl, Below.refl _ _⟩
  · go_enter Try.func3, Try.ntmps3
    go_wp2_with fail
    refine (specNameOK_any a0 _ w0).mono ?_
    rintro e w1 ⟨⟨b, rfl, h1⟩, rfl⟩
    have H1 : Hid (b = true ↔ isName a0) := h1
    clear h1
    go_wp2_with fail
    refine (implNameOK_any a0 _ w0).mono ?_
    rintro e w2 ⟨⟨c, rfl, h2⟩, hbel⟩
    obtain rfl : b = c := ans_same H1.out h2
    clear h2 H1
    cases b
    all_goals
      go_wp2
      go_ret
      exact ⟨rfl, hbel⟩
end Go.Proofs.Ythbbeflcmnehpag
