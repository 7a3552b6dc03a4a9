/-
  Joined: MarkP.
-/
import Derived.Test.YtdojjmkpelgcaaaDoorN06

namespace Go.Proofs.YtdojjmkpelgcaaaDoor
set_option maxRecDepth 100000
open Go.RowKit

theorem owns_ne {w : World} {B B' e e' s s' n n' : Nat} {v v' : Value} {xs xs' : List Value} (h : w.ownsRow B e s v n xs) (h' : w.ownsRow B' e' s' v' n' xs') (he : e ≠ e') : v.ownBlock = none ∨ v.ownBlock ≠ v'.ownBlock := by
 rcases h.2 with ⟨rfl, _⟩ | ⟨g, cap, cur, rfl, _, hg, _⟩
 ·exact .inl rfl
 ·rcases h'.2 with ⟨rfl, _⟩ | ⟨g', cap', cur', rfl, _, hg', _⟩
  ·exact .inr (by simp [Value.ownBlock])
  ·refine .inr ?_
   simp only [Value.ownBlock, ne_eq, Option.some.injEq]
   rintro rfl
   rw [hg] at hg'
   simp at hg'
   exact he hg'.2

def KeptBut (t : TypeId) (w w' : World) : Prop := ∀ (j : Nat) (cur : Array Value) (e : TypeId) (fz : Nat × Nat), w.heap[j]? = some (Obj.cells cur e fz) → e ≠ t → w'.heap[j]? = some (Obj.cells cur e fz)
theorem KeptBut.refl (t : TypeId) (w : World) : KeptBut t w w := fun _ _ _ _ h _ => h
theorem KeptBut.trans {t : TypeId} {a b c : World} (h : KeptBut t a b) (k : KeptBut t b c) : KeptBut t a c := fun j cur e fz h0 he => k j cur e fz (h j cur e fz h0 he) he
def OwnRows (w : World) (B : Nat) (vs : List Value) (rows : List (List I3)) : Prop :=
 vs.length = rows.length ∧ (∀ t, t < rows.length → w.ownsRow B 112 3 (vs.getD t undef) (rows.getD t []).length (flat (rows.getD t []))) ∧
 ∀ t t', t < rows.length → t' < rows.length → t ≠ t' → (vs.getD t undef).ownBlock = none ∨ (vs.getD t undef).ownBlock ≠ (vs.getD t' undef).ownBlock

def OwnProg (w : World) (B : Nat) (v : Value) (rows : List (List I3)) : Prop := ∃ vs, w.ownsRow B 69 1 v rows.length vs ∧ OwnRows w B vs rows

theorem OwnProg.nil (w : World) (B : Nat) : OwnProg w B (.slice none 0 0) [] := ⟨[], World.ownsRow_nil _ _ _ _, rfl, fun t ht => by simp at ht, fun t _ ht => by simp at ht⟩

theorem OwnRows.below {w w' : World} {B : Nat} {vs : List Value} {rows : List (List I3)} (h : OwnRows w B vs rows) (hb : Below w.heap.size w w') : OwnRows w' B vs rows := ⟨h.1, fun t ht => owns_below (h.2.1 t ht) hb, h.2.2⟩
theorem OwnProg.below {w w' : World} {B : Nat} {v : Value} {rows : List (List I3)} (h : OwnProg w B v rows) (hb : Below w.heap.size w w') : OwnProg w' B v rows := by
 obtain ⟨vs, h1, h2⟩ := h
 exact ⟨vs, owns_below h1 hb, h2.below hb⟩

theorem OwnProg.slice {w : World} {B : Nat} {v : Value} {rows : List (List I3)} (h : OwnProg w B v rows) : ∃ a cap, v = .slice a rows.length cap := by
 obtain ⟨vs, h1, _⟩ := h
 rcases h1.2 with ⟨hv, h0⟩ | ⟨g, cap, cur, hv, _⟩
 ·rw [h0]; exact ⟨none, 0, hv⟩
 ·exact ⟨some ⟨g, 0, none⟩, cap, hv⟩

theorem Instrs.of_own {w : World} {B : Nat} {v : Value} {xs : List I3} (h : w.ownsRow B 112 3 v xs.length (flat xs)) (hf : ∀ x ∈ xs, I3.fits x) : ∃ a cap, v = .slice a xs.length cap ∧ Instrs w a xs.length cap xs := by
 rcases h.2 with ⟨hv, h0⟩ | ⟨g, cap, cur, hv, _⟩
 ·obtain rfl : xs = [] := List.eq_nil_of_length_eq_zero h0
  exact ⟨none, 0, hv, rfl, Nat.le_refl _, by unfold maxLen; omega, by simp, .inl rfl⟩
 ·subst hv
  exact ⟨_, _, rfl, Instrs.of_owns h rfl hf rfl⟩

theorem OwnProg.codes {w : World} {B : Nat} {a : Option Addr} {len cap : Nat} {rows : List (List I3)} (h : OwnProg w B (.slice a len cap) rows) (hf : ∀ r ∈ rows, ∀ x ∈ r, I3.fits x) : Codes w a len cap rows := by
 obtain ⟨vs, h1, h2⟩ := h
 have hcellAt := h1.2
 rcases h1.2 with ⟨hv, h0⟩ | ⟨g, cap', cur, hv, _, hh, hn, hcm, _⟩
 ·cases hv
  obtain rfl : rows = [] := List.eq_nil_of_length_eq_zero h0
  exact ⟨rfl, Nat.le_refl _, by unfold maxLen; omega, .inl rfl⟩
 ·cases hv
  have hl := h1.1
  refine ⟨rfl, hn, hcm, .inr ⟨g, 0, rfl, (h1.lt g rfl).2, fun t ht => ?_⟩⟩
  have hc := h1.cellAt t (by omega)
  have hvt : vs[t]? = some (vs.getD t undef) := by simp [List.getD, show t < vs.length by omega]
  rw [hvt] at hc
  obtain ⟨a', cap', hva, hI⟩ := Instrs.of_own (h2.2.1 t ht) (hf _ (by simp [List.getD, ht]))
  rw [hva] at hc
  exact ⟨a', _, cap', by rw [Nat.zero_add]; exact hc, hI⟩

end Go.Proofs.YtdojjmkpelgcaaaDoor
