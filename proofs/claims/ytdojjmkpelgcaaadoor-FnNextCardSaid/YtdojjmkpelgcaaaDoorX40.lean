/-
  Joined: CptB.
-/
import Derived.Shelf.Abstract
import Derived.Deep.RegionLaw
import Derived.Laws.OwnMore
import Derived.Maps.AppendAt
import Derived.Lib.SliceRun
import Derived.Test.YtdojjmkpelgcaaaDoorX03

namespace Go.Proofs.YtdojjmkpelgcaaaDoor
set_option maxRecDepth 100000
open Go.RowKit
set_option linter.unusedVariables false
set_option linter.unusedSimpArgs false

theorem own_shrink {w : World} {B e s g n m cap : Nat} {cs : List Value} (h : w.ownsRow B e s (.slice (some ⟨g, 0, none⟩) n cap) n cs) (hm : m ≤ n) : w.ownsRow B e s (.slice (some ⟨g, 0, none⟩) m cap) m (cs.take (m * s)) := by
 have hl := h.1
 have hms : m * s ≤ n * s := Nat.mul_le_mul_right _ hm
 refine ⟨by rw [List.length_take]; omega, ?_⟩
 rcases h.2 with ⟨hv, _⟩ | ⟨g', cap', cur, hv, hB, hg, hn, hc, hsz, ht⟩
 ·cases hv
 ·cases hv
  refine .inr ⟨g, cap, cur, rfl, hB, hg, by omega, hc, hsz, ?_⟩
  rw [← ht, List.take_take, Nat.min_eq_left hms]
theorem own_far {w : World} {B e s g m cap : Nat} {cs : List Value} (h : w.ownsRow B e s (.slice (some ⟨g, 0, none⟩) m cap) m cs) {o : Nat} (ho : m * s ≤ o) (v : Value) : (w.setCell ⟨g, o, none⟩ v).ownsRow B e s (.slice (some ⟨g, 0, none⟩) m cap) m cs := by
 refine ⟨h.1, ?_⟩
 rcases h.2 with ⟨hv, _⟩ | ⟨g', cap', cur, hv, hB, hg, hn, hc, hsz, ht⟩
 ·cases hv
 ·cases hv
  refine .inr ⟨g, cap, cur.setIfInBounds o v, rfl, hB, ?_, hn, hc, by simpa using hsz, ?_⟩
  ·simp [World.setCell, Array.getElem?_modify, hg]
  ·rw [← ht, Array.toList_setIfInBounds, List.take_set_of_le ho]
theorem own_fars {B e s g m cap : Nat} {cs : List Value} : ∀ (vs : List Value) (o : Nat) (w : World), w.ownsRow B e s (.slice (some ⟨g, 0, none⟩) m cap) m cs → m * s ≤ o → (w.setCells g o vs).ownsRow B e s (.slice (some ⟨g, 0, none⟩) m cap) m cs
 | [], _, _, h, _ => h
 | v :: r, o, w, h, ho => own_fars r (o + 1) _ (own_far h ho v) (by omega)
theorem grown_sets (g : Nat) : ∀ (vs : List Value) (o : Nat) (w : World), w.grownBy (w.setCells g o vs) (some g)
 | [], _, w => World.grownBy.refl _ _
 | v :: r, o, w => grownBy_tr (grownBy_set w g o v) (grown_sets g r (o + 1) _)
end Go.Proofs.YtdojjmkpelgcaaaDoor
