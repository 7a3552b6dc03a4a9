/-
  impl.emptyProgram, impl.programOfList: a program read back from its numbers.
-/
import Derived.Test.YtiokkoaalakakaaDoorCodeL
import Derived.Test.YtiokkoaalakakaaDoorProg5
import Derived.Test.YtiokkoaalakakaaDoorParts
import Derived.Test.YtiokkoaalakakaaDoorProg4
import Derived.Deep.RegionHeld3
namespace Go.Proofs.YtiokkoaalakakaaDoor
open Go.RowKit

theorem owns_lower {w : World} {B B' e s n : Nat} {v : Value} {cs : List Value} (h : w.ownsRow B e s v n cs) (hB : B' ≤ B) : w.ownsRow B' e s v n cs := by
  refine ⟨h.1, ?_⟩
  rcases h.2 with h0 | ⟨g, cap, cur, hv, hg, r⟩
  · exact .inl h0
  · exact .inr ⟨g, cap, cur, hv, by omega, r⟩

set_option maxHeartbeats 1000000 in
set_option maxRecDepth 100000 in
theorem emptyProgram_is (w : World) : Calls Tryd.prog 48 #[] w fun e w' => e = .returned (.agg #[.slice (some ⟨w.heap.size + 1, 0, none⟩) 3 3]) ∧
    (∃ vs, w'.ownsRow w.heap.size 66 1 (.slice (some ⟨w.heap.size + 1, 0, none⟩) 3 3) 3 vs) ∧ Below w.heap.size w w' := by
  obtain ⟨i0, hi, hz0, hz1, hz2⟩ := info_parts info_instrs
  go_enter Tryd.func48, Tryd.ntmps48
  go_wp2_with (at_make; refine wpList_make_full _ rfl _ _ 40 rfl w.heap.size 66 i0 (.slice none 0 0) 1 Tryd.underlying40 hi hz0 hz1 _ _ _ _ 3 rfl rfl (by omega) (by omega) ?b2 ?b3 ?b4 ?_)
  case b2 => rw [hz2]; omega
  case b3 => unfold maxLen; omega
  case b4 => simp
  intro w0 hown0 hgrow0
  have hk : w0.cell? ⟨w.heap.size, 0, none⟩ = some (.slice none 0 0) := hgrow0.cell (by simp [go_sem]) (by simp)
  have hf : w0.frozen? ⟨w.heap.size, 0, none⟩ = false := by
    rw [World.frozen?_of_block (hgrow0.block w.heap.size (by simp) (by simp))]
    first | (simp [go_sem]; done) | (simp [World.frozen?]; done)
  have hb0 : Below w.heap.size w w0 := ((Below.refl w.heap.size w).alloc (Nat.le_refl _) _).grown hgrow0 (by simp) (fun k h => by cases h)
  try simp only [World.size_alloc] at hown0
  generalize (madeCells #[Value.slice none 0 0] (3 * 1)).toList = vs at hown0
  clear hgrow0
  have R : (w0.setCell ⟨w.heap.size, 0, none⟩ (.slice (some ⟨w.heap.size + 1, 0, none⟩) 3 3)).ownsRow w.heap.size 66 1 (.slice (some ⟨w.heap.size + 1, 0, none⟩) 3 3) 3 vs := ownsRow_setCell_other hown0 (by simp [Value.ownBlock]) _
  have hb1 : Below w.heap.size w (w0.setCell ⟨w.heap.size, 0, none⟩ (.slice (some ⟨w.heap.size + 1, 0, none⟩) 3 3)) := hb0.setCell (Nat.le_refl _) _
  have k3 : (w0.setCell ⟨w.heap.size, 0, none⟩ (.slice (some ⟨w.heap.size + 1, 0, none⟩) 3 3)).cell? ⟨w.heap.size, 0, none⟩ = some (.slice (some ⟨w.heap.size + 1, 0, none⟩) 3 3) := World.cell?_setCell_same' _ _ _ (by rw [hk]; rfl)
  try simp only [World.size_alloc]
  go_wp2
  clear hown0 hb0 hk hf
  generalize w0.setCell ⟨w.heap.size, 0, none⟩ (.slice (some ⟨w.heap.size + 1, 0, none⟩) 3 3) = w2 at R hb1 k3
  refine bodyPost_ret (by simp [results, Tryd.results48, go_sem, k3]; try rfl) rfl ?_
  exact ⟨rfl, ⟨vs, R⟩, hb1⟩
end Go.Proofs.YtiokkoaalakakaaDoor
