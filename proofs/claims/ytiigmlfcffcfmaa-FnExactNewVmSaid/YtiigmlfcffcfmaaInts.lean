
/-
  toIntS: a copy of a slice of integers, in memory of its own.
-/
import Derived.Test.YtiigmlfcffcfmaaInts0
namespace Go.Proofs.Ytiigmlfcffcfmaa
open Go.RowKit

theorem set_step : ∀ (zs : List Int) (len k : Nat), k < len → zs.length = len → (zs.take k ++ List.replicate (len - k) 0).set k (zs.getD k 0) = zs.take (k + 1) ++ List.replicate (len - (k + 1)) 0
  | [], len, k, hk, hl => by simp at hl; omega
  | z :: zs, len, 0, _, hl => by
    obtain ⟨n, rfl⟩ : ∃ n, len = n + 1 := ⟨len - 1, by simp at hl; omega⟩
    simp [List.replicate_succ]
  | z :: zs, len, k + 1, hk, hl => by
    obtain ⟨n, rfl⟩ : ∃ n, len = n + 1 := ⟨len - 1, by omega⟩
    have ih := set_step zs n k (by omega) (by simpa using hl)
    simp only [Nat.add_sub_add_right, List.take_succ_cons, List.cons_append, List.set_cons_succ, List.getD_cons_succ, ih]

end Go.Proofs.Ytiigmlfcffcfmaa
