/-
  FnBugs, part 19 of 50 (ProgL, SlI).
-/
import Derived.Test.YtkmnnmgopnoffaaDoorJ18
import Derived.Test.YtkmnnmgopnoffaaDoorJ10
import Derived.Test.YtkmnnmgopnoffaaDoorJ09
import Derived.Deep.RegionHeld3
import Derived.Test.YtkmnnmgopnoffaaDoorJ01

/-
  impl.emptyProgram, impl.programOfList: a program read back from its numbers.
-/
namespace Go.Proofs.YtkmnnmgopnoffaaDoor
open Go.RowKit

theorem owns_lower {w : World} {B B' e s n : Nat} {v : Value} {cs : List Value} (h : w.ownsRow B e s v n cs) (hB : B' ≤ B) : w.ownsRow B' e s v n cs := by
  refine ⟨h.1, ?_⟩
  rcases h.2 with h0 | ⟨g, cap, cur, hv, hg, r⟩
  · exact .inl h0
  · exact .inr ⟨g, cap, cur, hv, by omega, r⟩

end Go.Proofs.YtkmnnmgopnoffaaDoor


/-
  Slices of slices of integers.
-/
namespace Go.Proofs.YtkmnnmgopnoffaaDoor
open Go.RowKit

/-- s[lo:hi] of a slice of integers. -/
theorem slice_lh {w : World} {b off len cap lo hi : Nat} {xs : List Int} (h : Ints .i64 w (some ⟨b, off, none⟩) len cap xs) (h1 : lo ≤ hi) (h2 : hi ≤ len) :
    ∃ a, (∀ W, (Instr.slice 27 (.slice (some ⟨b, off, none⟩) len cap) (some (.int .i64 (lo : Int))) (some (.int .i64 (hi : Int))) none).run Tryd.prog W = .ok (.slice a (hi - lo) (cap - lo)) W) ∧ Ints .i64 w a (hi - lo) (cap - lo) ((xs.drop lo).take (hi - lo)) := by
  obtain ⟨hl, hlc, hcm, hcase⟩ := h
  have hhc : (hi : Int) ≤ (cap : Int) := by omega
  have hlh : (lo : Int) ≤ (hi : Int) := by omega
  by_cases hz : cap - lo = 0
  · refine ⟨some ⟨b, off, none⟩, fun W => ?_, by rw [List.length_take, List.length_drop]; omega, by omega, by omega, .inl (by omega)⟩
    go_simp
    omega
  · refine ⟨some ⟨b, off + lo, none⟩, fun W => ?_, by rw [List.length_take, List.length_drop]; omega, by omega, by omega, ?_⟩
    · go_simp
      omega
    · rcases hcase with h0 | ⟨b', off', he, hb, hc⟩
      · exact .inl (by omega)
      · cases he
        refine .inr ⟨b, off + lo, rfl, hb, fun t ht => ?_⟩
        have := hc (lo + t) (by omega)
        rw [show off + lo + t = off + (lo + t) by omega, this]
        simp [List.getD, ht]
/-- s[lo:] of a slice of integers. -/
theorem slice_l {w : World} {b off len cap lo : Nat} {xs : List Int} (h : Ints .i64 w (some ⟨b, off, none⟩) len cap xs) (h1 : lo ≤ len) :
    ∃ a, (∀ W, (Instr.slice 27 (.slice (some ⟨b, off, none⟩) len cap) (some (.int .i64 (lo : Int))) none none).run Tryd.prog W = .ok (.slice a (len - lo) (cap - lo)) W) ∧ Ints .i64 w a (len - lo) (cap - lo) (xs.drop lo) := by
  obtain ⟨hl, hlc, hcm, hcase⟩ := h
  have hlh : (lo : Int) ≤ (len : Int) := by omega
  by_cases hz : cap - lo = 0
  · refine ⟨some ⟨b, off, none⟩, fun W => ?_, by rw [List.length_drop]; omega, by omega, by omega, .inl (by omega)⟩
    go_simp
    omega
  · refine ⟨some ⟨b, off + lo, none⟩, fun W => ?_, by rw [List.length_drop]; omega, by omega, by omega, ?_⟩
    · go_simp
      omega
    · rcases hcase with h0 | ⟨b', off', he, hb, hc⟩
      · exact .inl (by omega)
      · cases he
        refine .inr ⟨b, off + lo, rfl, hb, fun t ht => ?_⟩
        have := hc (lo + t) (by omega)
        rw [show off + lo + t = off + (lo + t) by omega, this]
        simp [List.getD]
end Go.Proofs.YtkmnnmgopnoffaaDoor
