
/-
  The specification's key of a state that has its shape: a digit of each number.
-/
import Derived.Test.YtleiogcohkfgkaaVm3
import Derived.Test.YtleiogcohkfgkaaConv
import Derived.Test.YtleiogcohkfgkaaParts
namespace Go.Proofs.Ytleiogcohkfgkaa
open Go.RowKit

/-- All numbers of a state; its key. -/
def allOf (m : V4) : List Int := ((m.1 ++ m.2.1) ++ m.2.2.1) ++ m.2.2.2
def keyT (m : V4) : ByteArray := strOfNums ((allOf m).map fun z => 48 + z)
theorem allIn_parts {zs : List Int} {n high : Int} (h : allIn zs n high = true) : (zs.length : Int) = n ∧ ∀ z ∈ zs, 0 ≤ z ∧ z ≤ high := by
  unfold allIn at h
  simp at h
  exact ⟨h.2, h.1⟩
theorem shape_parts {m : V4} (h : shapeOk m = true) : m.1.length = 3 ∧ m.2.1.length = 4 ∧ m.2.2.1.length = 2 ∧ m.2.2.2.length = 6 ∧ ∀ z ∈ allOf m, 0 ≤ z ∧ z ≤ 9 := by
  unfold shapeOk at h
  simp only [Bool.and_eq_true] at h
  obtain ⟨h0, h1, h2, h3⟩ := h
  obtain ⟨l0, e0⟩ := allIn_parts h0
  obtain ⟨l1, e1⟩ := allIn_parts h1
  obtain ⟨l2, e2⟩ := allIn_parts h2
  obtain ⟨l3, e3⟩ := allIn_parts h3
  refine ⟨by omega, by omega, by omega, by omega, fun z hz => ?_⟩
  unfold allOf at hz
  simp only [List.mem_append] at hz
  rcases hz with ((hz | hz) | hz) | hz
  · have := e0 z hz; omega
  · exact e1 z hz
  · have := e2 z hz; omega
  · exact e3 z hz
theorem ints_news {w : World} {b off n c : Nat} {zs : List Int} (h : Ints .i64 w (some ⟨b, off, none⟩) n c zs) : ∀ j u, (zs.map (Value.int .i64))[j]? = some u → w.cell? ((⟨b, off, none⟩ : Addr).add j) = some u := by
  obtain ⟨hl, _, _, h0⟩ := h
  intro j u hj
  have hjl : j < zs.length := by
    rcases Nat.lt_or_ge j zs.length with h | h
    · exact h
    · simp [List.getElem?_eq_none h] at hj
  rcases h0 with h0 | ⟨b', off', ha, _, hc⟩
  · omega
  · cases ha
    have e : (⟨b, off, none⟩ : Addr).add j = ⟨b, off + j, none⟩ := by unfold Addr.add; split <;> simp_all
    rw [e, hc j (by omega)]
    simp [hjl] at hj
    simp [List.getD, hjl, hj]
theorem one_i64s (zs : List Int) : ∀ u ∈ zs.map (Value.int .i64), u.oneCell' = true := by intro u hu; obtain ⟨z, _, rfl⟩ := List.mem_map.1 hu; rfl
theorem own_empty (w : World) (t s B : Nat) (hB : B ≤ w.heap.size) : (w.alloc (.cells #[] t)).ownsRow B t s (.slice (some ⟨w.heap.size, 0, none⟩) 0 0) 0 [] := World.ownsRow_lit w #[] 0 hB (by unfold maxLen; omega) (by simp)
theorem some_of_ints {w : World} {a : Option Addr} {n c k : Nat} {zs : List Int} (h : Ints .i64 w a n c zs) (hl : zs.length = k) (hk : 0 < k) : n = k ∧ ∃ b off, a = some ⟨b, off, none⟩ := by
  have hn : n = k := h.1.symm.trans hl
  rcases h.2.2.2 with h0 | ⟨b, off, ha, _⟩
  · omega
  · exact ⟨hn, b, off, ha⟩

end Go.Proofs.Ytleiogcohkfgkaa
