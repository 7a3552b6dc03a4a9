/-
  Joined: LstM.
-/
import Derived.Test.YtmhngodbnoonhaaDoorK08
import Derived.Test.YtmhngodbnoonhaaDoorK02
import Derived.Test.YtmhngodbnoonhaaDoorK47

/-
  Rows of numbers that were made: the laws' eqIntS, markIntS, heldIntS at them.
-/
namespace Go.Proofs.YtmhngodbnoonhaaDoor
open Go.RowKit
set_option linter.unusedVariables false

theorem lst_slice {w : World} {B : Nat} {v : Value} {xs : List Int} (h : w.ownsRow B 3 1 v xs.length (xs.map (Value.int .i64))) : ∃ a cap, v = .slice a xs.length cap ∧ Ints .i64 w a xs.length cap xs := by
  obtain ⟨a, cap, rfl⟩ := owns_sliceN h
  exact ⟨a, cap, rfl, ints_of_row h⟩
theorem lst_of {w : World} {B cap : Nat} {a : Option Addr} {xs : List Int} (h : w.ownsRow B 3 1 (.slice a xs.length cap) xs.length (xs.map (Value.int .i64))) : Ints .i64 w a xs.length cap xs := ints_of_row h
theorem eqL_same (a a' : Option Addr) (len cap cap' : Nat) (xs : List Int) (w : World) (h : Ints .i64 w a len cap xs) (h' : Ints .i64 w a' len cap' xs) :
    Calls Tryd.prog 31 #[.slice a len cap, .slice a' len cap'] w fun e w' => e = .returned (.bool true) ∧ Below w.heap.size w w' := by
  refine (eqIntS_same a a' len cap cap' xs w h h').mono ?_
  rintro e w' ⟨rfl, d, rfl⟩
  exact ⟨rfl, below_dN d⟩
theorem markL_any (base : Nat) (v : Value) (k : Int) (xs : List Int) (w : World) (hk0 : 0 ≤ k) (hk : k ≤ 1000000000) (hn : xs.length ≤ 1048576) (ho : w.ownsRow base 3 1 v xs.length (xs.map (Value.int .i64))) :
    Calls Tryd.prog 36 #[v, .int .i64 k] w fun e w' => e = .returned (.int .i64 (k + xs.length)) ∧
      w'.ownsRow base 3 1 v xs.length ((mkTo k xs xs.length).map (Value.int .i64)) ∧ w.grownBy w' v.ownBlock := by
  rcases ho.2 with ⟨rfl, h0⟩ | ⟨g, cap, cur, rfl, _⟩
  · have hx : xs = [] := List.eq_nil_of_length_eq_zero h0
    subst hx
    refine (markIntS_none none 0 k w).mono ?_
    rintro e w' ⟨rfl, rfl⟩
    exact ⟨by simp, ho, World.grownBy.refl _ _⟩
  · refine (markIntS_grown0 base g xs.length cap k xs w hk0 hk hn ho).mono ?_
    rintro e w' ⟨rfl, h1, h2⟩
    exact ⟨rfl, h1, h2⟩
theorem heldL_any (base : Nat) (v : Value) (k : Int) (xs : List Int) (w : World) (hk0 : 0 ≤ k) (hk : k ≤ 1000000000) (hn : xs.length ≤ 1048576) (ho : w.ownsRow base 3 1 v xs.length ((mkTo k xs xs.length).map (Value.int .i64))) :
    Calls Tryd.prog 44 #[v, .int .i64 k] w fun e w' => e = .returned (.int .i64 (k + xs.length)) ∧ w = w' := by
  obtain ⟨a, cap, rfl⟩ := owns_sliceN ho
  exact heldIntS_yes a xs.length cap k (mkTo k xs xs.length) w hk0 hk hn (ints_of_row ho) (fun i hi => mkTo_get k xs xs.length i hi (Nat.le_refl _))
end Go.Proofs.YtmhngodbnoonhaaDoor
