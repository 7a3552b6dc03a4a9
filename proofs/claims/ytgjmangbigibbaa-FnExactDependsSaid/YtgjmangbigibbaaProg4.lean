
/-
  Programs compared: laws' eqInstrS, eqInstrSS, eqProgram find alike what is alike.
-/
import Derived.Test.YtgjmangbigibbaaProg1
import Derived.Deep.RegionHeld3
namespace Go.Proofs.Ytgjmangbigibbaa
open Go.RowKit

theorem cells_kept {w w' : World} (h : Below w.heap.size w w') : ∀ (p : Addr) (v : Value), w.cell? p = some v → w'.cell? p = some v := by
  intro p v hv
  have hlt : p.block < w.heap.size := by
    rcases Nat.lt_or_ge p.block w.heap.size with h' | h'
    · exact h'
    · simp [World.cell?, Array.getElem?_eq_none h'] at hv
  rw [h.cell hlt]
  exact hv

end Go.Proofs.Ytgjmangbigibbaa
