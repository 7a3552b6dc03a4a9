/-
  Plain mathematics of reading a list of numbers from bytes: how many, then each, and nothing behind; there is at most one such list.
-/
import Derived.Test.YtiokkoaalakakaaDoorTake
namespace Go.Proofs.YtiokkoaalakakaaDoor

/-- The numbers zs stand behind one another from p on, and end at q. -/
def NumsAt (s : ByteArray) : Nat → List Nat → Nat → Prop
  | p, [], q => q = p
  | p, z :: zs, q => ∃ k, Num s p z k ∧ NumsAt s (p + k) zs q
theorem numsAt_snoc {s : ByteArray} : ∀ {zs : List Nat} {p q z k : Nat}, NumsAt s p zs q → Num s q z k → NumsAt s p (zs ++ [z]) (q + k)
  | [], p, q, z, k, h, hn => by
    obtain rfl : q = p := h
    exact ⟨k, hn, rfl⟩
  | y :: zs, p, q, z, k, h, hn => by
    obtain ⟨j, hj, hr⟩ := h
    exact ⟨j, hj, numsAt_snoc hr hn⟩
theorem numsAt_prefix {s : ByteArray} : ∀ {zs ys : List Nat} {p q r : Nat}, NumsAt s p zs q → NumsAt s p ys r → zs.length ≤ ys.length → ∃ rest, ys = zs ++ rest ∧ NumsAt s q rest r
  | [], ys, p, q, r, h, g, _ => by
    obtain rfl : q = p := h
    exact ⟨ys, rfl, g⟩
  | z :: zs, [], _, _, _, _, _, hl => by simp at hl
  | z :: zs, y :: ys, p, q, r, h, g, hl => by
    obtain ⟨j, hj, hr⟩ := h
    obtain ⟨k, hk, gr⟩ := g
    obtain ⟨rfl, rfl⟩ := hj.only hk
    obtain ⟨rest, rfl, h'⟩ := numsAt_prefix hr gr (by simpa using hl)
    exact ⟨rest, rfl, h'⟩
/-- A whole text is the bytes of the list zs. -/
def Listed (s : ByteArray) (zs : List Nat) : Prop := ∃ k, Num s 0 zs.length k ∧ zs.length ≤ 4096 ∧ NumsAt s k zs s.size
def NoList (s : ByteArray) : Prop := ∀ zs, ¬ Listed s zs
theorem Listed.only {s : ByteArray} {zs ys : List Nat} (h : Listed s zs) (g : Listed s ys) : zs = ys := by
  obtain ⟨k, hk, _, hz⟩ := h
  obtain ⟨j, hj, _, hy⟩ := g
  obtain ⟨hl, rfl⟩ := hk.only hj
  obtain ⟨rest, rfl, _⟩ := numsAt_prefix hz hy (by omega)
  have : rest = [] := by
    have e := hl
    simp at e
    exact e
  rw [this, List.append_nil]
theorem noList_of_noNum {s : ByteArray} (h : NoNum s 0) : NoList s := fun _ ⟨_, hk, _⟩ => h _ _ hk
theorem noList_great {s : ByteArray} {n k : Nat} (h : Num s 0 n k) (hn : 4096 < n) : NoList s := by
  intro zs ⟨j, hj, hl, _⟩
  obtain ⟨rfl, _⟩ := h.only hj
  omega
/-- One number is missing. -/
theorem noList_stop {s : ByteArray} {n k q : Nat} {zs : List Nat} (h : Num s 0 n k) (hz : NumsAt s k zs q) (hl : zs.length < n) (hq : NoNum s q) : NoList s := by
  intro ys ⟨j, hj, _, hy⟩
  obtain ⟨e, rfl⟩ := h.only hj
  obtain ⟨rest, e2, hr⟩ := numsAt_prefix hz hy (by omega)
  cases rest with
  | nil => rw [List.append_nil] at e2; rw [e2] at e; omega
  | cons y rest =>
    obtain ⟨i, hi, _⟩ := hr
    exact hq _ _ hi
/-- Something stands behind the list. -/
theorem noList_more {s : ByteArray} {n k q : Nat} {zs : List Nat} (h : Num s 0 n k) (hz : NumsAt s k zs q) (hl : zs.length = n) (hq : q ≠ s.size) : NoList s := by
  intro ys ⟨j, hj, _, hy⟩
  obtain ⟨e, rfl⟩ := h.only hj
  obtain ⟨rest, e2, hr⟩ := numsAt_prefix hz hy (by omega)
  have : rest = [] := by
    have e3 := congrArg List.length e2
    rw [List.length_append] at e3
    exact List.eq_nil_of_length_eq_zero (by omega)
  subst this
  exact hq hr.symm
theorem listed_of {s : ByteArray} {n k q : Nat} {zs : List Nat} (h : Num s 0 n k) (hn : n ≤ 4096) (hz : NumsAt s k zs q) (hl : zs.length = n) (hq : q = s.size) : Listed s zs := by
  subst hl hq
  exact ⟨k, h, hn, hz⟩
theorem Num.le {s : ByteArray} {p n k : Nat} (h : Num s p n k) : p + k ≤ s.size := h.1.2.2.1
theorem Num.one {s : ByteArray} {p n k : Nat} (h : Num s p n k) : 1 ≤ k := h.1.1
theorem Num.five {s : ByteArray} {p n k : Nat} (h : Num s p n k) : k ≤ 5 := h.1.2.1
theorem Num.val_le {s : ByteArray} {p n k : Nat} (h : Num s p n k) : n ≤ 999999999 := h.2.2.2

theorem isEnd_uncut {s : ByteArray} {p k : Nat} (h : IsEnd s p k) : IsEnd (s.extract p s.size) 0 k := by
  obtain ⟨h1, h2, h3, h4, h5⟩ := h
  refine ⟨h1, h2, by simp; omega, fun i hi => ?_, ?_⟩
  · rw [bt_cut]; simpa using h4 i hi
  · rw [bt_cut, show p + (0 + k - 1) = p + k - 1 by omega]; exact h5
theorem num_uncut {s : ByteArray} {p n k : Nat} (h : Num s p n k) : Num (s.extract p s.size) 0 n k := by
  obtain ⟨h1, h2, h3, h4⟩ := h
  refine ⟨isEnd_uncut h1, ?_, ?_, h4⟩
  · rw [bt_cut, show p + (0 + k - 1) = p + k - 1 by have := h1.1; omega]; exact h2
  · rw [h3, val_cut]
theorem noNum_cut {s : ByteArray} {p : Nat} (h : NoNum (s.extract p s.size) 0) : NoNum s p := fun n k hn => h n k (num_uncut hn)
theorem cut_cut (s : ByteArray) (p k : Nat) : (s.extract p s.size).extract k (s.extract p s.size).size = s.extract (p + k) s.size := by
  apply ByteArray.ext
  simp only [ByteArray.data_extract, ByteArray.size_extract, Array.extract_extract]
  congr 1
  omega
end Go.Proofs.YtiokkoaalakakaaDoor
