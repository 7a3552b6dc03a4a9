
/-
  A row of integers that is handed back: alike, marked, held.
-/
import Derived.Test.YtleiogcohkfgkaaMk8
namespace Go.Proofs.Ytleiogcohkfgkaa
open Go.RowKit
set_option linter.unusedVariables false

def OwnL9 (w : World) (B : Nat) (v : Value) (z : List Int) : Prop := w.ownsRow B 3 1 v z.length (z.map (Value.int .i64))
def HeldL9 (w : World) (B : Nat) (v : Value) (z : List Int) : Prop := w.ownsRow B 3 1 v z.length ((mkTo 1 z z.length).map (Value.int .i64))
theorem OwnL9.below {w w' : World} {B : Nat} {v : Value} {z : List Int} (h : OwnL9 w B v z) (hb : Below w.heap.size w w') : OwnL9 w' B v z := owns8 h hb
theorem HeldL9.below {w w' : World} {B : Nat} {v : Value} {z : List Int} (h : HeldL9 w B v z) (hb : Below w.heap.size w w') : HeldL9 w' B v z := owns8 h hb
theorem OwnL9.under {w w' : World} {B T : Nat} {v : Value} {z : List Int} (h : OwnL9 w B v z) (hT : ∀ x, v.ownBlock = some x → x < T) (hb : Below T w w') : OwnL9 w' B v z := by
  refine ⟨h.1, ?_⟩
  rcases h.2 with h0 | ⟨g, cap, cur, hv, hBg, hg, rest⟩
  · exact .inl h0
  · exact .inr ⟨g, cap, cur, hv, hBg, (hb.block g (hT g (by rw [hv]; rfl))).trans hg, rest⟩
theorem OwnL9.tops {w : World} {B : Nat} {v : Value} {z : List Int} (h : OwnL9 w B v z) : ∀ x, v.ownBlock = some x → x < w.heap.size := fun x hx => (h.lt x hx).2
theorem eqL9 {w : World} {B B' : Nat} {v v' : Value} {z : List Int} (h : OwnL9 w B v z) (h' : OwnL9 w B' v' z) :
    Calls Try.prog 10 #[v, v'] w fun e w' => e = .returned (.bool true) ∧ Below w.heap.size w w' := by
  obtain ⟨a, c, rfl⟩ := slice8 h
  obtain ⟨a', c', rfl⟩ := slice8 h'
  exact eq8 a a' z.length c c' z w (ints8 h) (ints8 h')
theorem markL9 {w : World} {B : Nat} {v : Value} {z : List Int} (h : OwnL9 w B v z) (hB : B ≤ w.heap.size) (hn : z.length ≤ 1000) :
    Calls Try.prog 13 #[v, .int .i64 1] w fun e w' => e = .returned (.int .i64 (1 + z.length)) ∧ HeldL9 w' B v z ∧ Below B w w' := by
  refine (markAny8 B v 1 z w (by omega) (by omega) (by omega) h).mono ?_
  rintro e w' ⟨rfl, h1, hg⟩
  exact ⟨rfl, h1, (Below.refl _ _).grown hg hB (fun x hx => (h.lt x hx).1)⟩
theorem heldL9 {w : World} {B : Nat} {v : Value} {z : List Int} (h : HeldL9 w B v z) (hn : z.length ≤ 1000) :
    Calls Try.prog 14 #[v, .int .i64 1] w fun e w' => e = .returned (.int .i64 (1 + z.length)) ∧ Below w.heap.size w w' := by
  refine (heldAny8 B v 1 z w (by omega) (by omega) (by omega) h).mono ?_
  rintro e w' ⟨rfl, rfl⟩
  exact ⟨rfl, Below.refl _ _⟩
end Go.Proofs.Ytleiogcohkfgkaa
