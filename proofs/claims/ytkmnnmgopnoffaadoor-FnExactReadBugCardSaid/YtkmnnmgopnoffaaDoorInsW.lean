
/-
  impl.instrOfWords: an instruction read from its words.
-/
import Derived.Test.YtkmnnmgopnoffaaDoorOpI
import Derived.Test.YtkmnnmgopnoffaaDoorMarkP
import Derived.Test.YtkmnnmgopnoffaaDoorProg4
import Derived.Deep.RegionHeld3
namespace Go.Proofs.YtkmnnmgopnoffaaDoor
open Go.RowKit

/-- s[1:] of a slice of strings. -/
theorem slice_strs {w : World} {b off len cap lo : Nat} {xs : List ByteArray} (h : Strs w (some ⟨b, off, none⟩) len cap xs) (h1 : lo ≤ len) :
    ∃ a, (∀ W, (Instr.slice 117 (.slice (some ⟨b, off, none⟩) len cap) (some (.int .i64 (lo : Int))) none none).run Tryd.prog W = .ok (.slice a (len - lo) (cap - lo)) W) ∧ Strs w a (len - lo) (cap - lo) (xs.drop lo) := by
  obtain ⟨hl, hlc, hcm, hcase⟩ := h
  have hlh : (lo : Int) ≤ (len : Int) := by omega
  by_cases hz : cap - lo = 0
  · refine ⟨some ⟨b, off, none⟩, fun W => ?_, by rw [List.length_drop]; omega, by omega, by omega, .inl (by omega)⟩
    go_simp
    omega
  · refine ⟨some ⟨b, off + lo, none⟩, fun W => ?_, by rw [List.length_drop]; omega, by omega, by omega, ?_⟩
    · go_simp
      omega
    · rcases hcase with h0 | ⟨b', off', he, hb, hc⟩
      · exact .inl (by omega)
      · cases he
        refine .inr ⟨b, off + lo, rfl, hb, fun t ht => ?_⟩
        have := hc (lo + t) (by omega)
        rw [show off + lo + t = off + (lo + t) by omega, this]
        simp [List.getD]

theorem box3_new (w : World) (x y z : Value) (t B : Nat) (hB : B ≤ w.heap.size) : (w.alloc (.cells #[x, y, z] t)).ownsRow B t 3 (.slice (some ⟨w.heap.size, 0, none⟩) 1 1) 1 [x, y, z] := World.ownsRow_lit w #[x, y, z] 1 hB (by unfold maxLen; omega) rfl

end Go.Proofs.YtkmnnmgopnoffaaDoor
