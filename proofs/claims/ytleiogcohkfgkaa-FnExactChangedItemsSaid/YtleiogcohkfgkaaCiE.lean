
/-
  FnExactChangedItems.
-/
import Derived.Test.YtleiogcohkfgkaaCiW
import Derived.Test.YtleiogcohkfgkaaVerD
namespace Go.Proofs.Ytleiogcohkfgkaa
open Go.RowKit

theorem ciGot_L9 {e : Ending} {w' : World} {B : Nat} {P Q : List (List I3)} (h : CiGot e w' B P Q) : ∃ v, e = .returned (.tuple #[v, .int .i64 (chK9 P Q)]) ∧ OwnL9 w' B v ((chL9 P Q).map itm9) := by
  obtain ⟨v, e1, q⟩ := h
  refine ⟨v, e1, ?_⟩
  unfold OwnL9
  rw [List.length_map]
  exact q
theorem fnExactChangedItems_walk (a0 : Option Addr) (n0 c0 : Nat) (r0 : List (List I3)) (a1 : Option Addr) (n1 c1 : Nat) (r1 : List (List I3)) (w : World) (h0 : Codes w a0 n0 c0 r0) (h1 : Codes w a1 n1 c1 r1) :
    Calls Try.prog 3 #[.agg #[.slice a0 n0 c0], .agg #[.slice a1 n1 c1]] w fun e w' => e = .returned (.bool true) ∧ Below w.heap.size w w' :=
  fnExactChangedItems_of a0 n0 c0 r0 a1 n1 c1 r1 ((chL9 r0 r1).map itm9) (by rw [List.length_map]; have := chL9_len r0 r1; omega) (chK9 r0 r1) w h0 h1
    (fun a n c a' n' c' w h h' => (specChangedItems_is a n c r0 a' n' c' r1 w h h').mono fun e w' k => ⟨ciGot_L9 k.1, k.2⟩)
    (fun a n c a' n' c' w h h' => (implChangedItems_is a n c r0 a' n' c' r1 w h h').mono fun e w' k => ⟨ciGot_L9 k.1, k.2⟩)
end Go.Proofs.Ytleiogcohkfgkaa
