/-
  FnProgram, part 26 of 50 (TakeWalk, Lists).
-/
import Derived.Test.YtiokkoaalakakaaGreatDoorJ25
import Derived.Test.YtiokkoaalakakaaGreatDoorJ11

/-
  The specification's reader of a number (l01Take), and UnpackNumber, the program's and the specification's, by contracts.
-/
namespace Go.Proofs.YtiokkoaalakakaaGreatDoor
open Go.RowKit

def pw : Nat → Int
  | 0 => 1
  | 1 => 128
  | 2 => 16384
  | 3 => 2097152
  | 4 => 268435456
  | _ => 34359738368
theorem val_lt4 (s : ByteArray) (p : Nat) : ∀ j, j ≤ 4 → val s p j < 268435456
  | 0, _ => by simp [val]
  | 1, _ => by simp only [val]; omega
  | 2, _ => by simp only [val]; omega
  | 3, _ => by simp only [val]; omega
  | 4, _ => by simp only [val]; omega
  | j + 5, h => by omega
theorem val_step (s : ByteArray) : ∀ j, j ≤ 4 → ((val s 0 (j + 1) : Nat) : Int) = (val s 0 j : Int) + (bt s j : Int) % 128 * pw j
  | 0, _ => by simp only [val, pw, Nat.zero_add]; omega
  | 1, _ => by simp only [val, pw, Nat.zero_add]; omega
  | 2, _ => by simp only [val, pw, Nat.zero_add]; omega
  | 3, _ => by simp only [val, pw, Nat.zero_add]; omega
  | 4, _ => by simp only [val, pw, Nat.zero_add]; omega
  | j + 5, h => by omega

theorem pw_le : ∀ j, j ≤ 4 → 1 ≤ pw j ∧ pw j ≤ 268435456
  | 0, _ => by simp [pw]
  | 1, _ => by simp [pw]
  | 2, _ => by simp [pw]
  | 3, _ => by simp [pw]
  | 4, _ => by simp [pw]
  | j + 5, h => by omega
theorem pw_succ : ∀ j, j ≤ 4 → pw (j + 1) = pw j * 128
  | 0, _ => rfl
  | 1, _ => rfl
  | 2, _ => rfl
  | 3, _ => rfl
  | 4, _ => rfl
  | j + 5, h => by omega
theorem prod_le {b : Nat} {u : Int} (h1 : 1 ≤ u) (h2 : u ≤ 268435456) : 0 ≤ (b : Int) % 128 * u ∧ (b : Int) % 128 * u ≤ 34091302912 := by
  have h0 : 0 ≤ (b : Int) % 128 := by omega
  have h7 : (b : Int) % 128 ≤ 127 := by omega
  refine ⟨Int.mul_nonneg h0 (by omega), ?_⟩
  have := Int.mul_le_mul h7 h2 (by omega) (by omega)
  omega

/-- What a reader answers at the beginning of s. -/
theorem num_at {s : ByteArray} {j : Nat} (hE : IsEnd s 0 (j + 1)) (hz : ¬ (0 < j ∧ bt s j = 0)) (hv : val s 0 (j + 1) ≤ 999999999) : Num s 0 (val s 0 (j + 1)) (j + 1) :=
  ⟨hE, by rw [show 0 + (j + 1) - 1 = j by omega]; intro h; exact hz ⟨by omega, h.2⟩, rfl, hv⟩
theorem noNum_zero' {s : ByteArray} {j : Nat} (h : IsEnd s 0 (j + 1)) (hk : 0 < j) (hb : bt s j = 0) : NoNum s 0 := noNum_zero h (by omega) (by rw [show 0 + (j + 1) - 1 = j by omega]; exact hb)

end Go.Proofs.YtiokkoaalakakaaGreatDoor

/-
  Plain mathematics of reading a list of numbers from bytes: how many, then each, and nothing behind; there is at most one such list.
-/
namespace Go.Proofs.YtiokkoaalakakaaGreatDoor

/-- The numbers zs stand behind one another from p on, and end at q. -/
def NumsAt (s : ByteArray) : Nat → List Nat → Nat → Prop
  | p, [], q => q = p
  | p, z :: zs, q => ∃ k, Num s p z k ∧ NumsAt s (p + k) zs q
theorem numsAt_snoc {s : ByteArray} : ∀ {zs : List Nat} {p q z k : Nat}, NumsAt s p zs q → Num s q z k → NumsAt s p (zs ++ [z]) (q + k)
  | [], p, q, z, k, h, hn => by
    obtain rfl : q = p := h
    exact ⟨k, hn, rfl⟩
  | y :: zs, p, q, z, k, h, hn => by
    obtain ⟨j, hj, hr⟩ := h
    exact ⟨j, hj, numsAt_snoc hr hn⟩
theorem numsAt_prefix {s : ByteArray} : ∀ {zs ys : List Nat} {p q r : Nat}, NumsAt s p zs q → NumsAt s p ys r → zs.length ≤ ys.length → ∃ rest, ys = zs ++ rest ∧ NumsAt s q rest r
  | [], ys, p, q, r, h, g, _ => by
    obtain rfl : q = p := h
    exact ⟨ys, rfl, g⟩
  | z :: zs, [], _, _, _, _, _, hl => by simp at hl
  | z :: zs, y :: ys, p, q, r, h, g, hl => by
    obtain ⟨j, hj, hr⟩ := h
    obtain ⟨k, hk, gr⟩ := g
    obtain ⟨rfl, rfl⟩ := hj.only hk
    obtain ⟨rest, rfl, h'⟩ := numsAt_prefix hr gr (by simpa using hl)
    exact ⟨rest, rfl, h'⟩
/-- A whole text is the bytes of the list zs. -/
def Listed (s : ByteArray) (zs : List Nat) : Prop := ∃ k, Num s 0 zs.length k ∧ zs.length ≤ 4096 ∧ NumsAt s k zs s.size
def NoList (s : ByteArray) : Prop := ∀ zs, ¬ Listed s zs
theorem Listed.only {s : ByteArray} {zs ys : List Nat} (h : Listed s zs) (g : Listed s ys) : zs = ys := by
  obtain ⟨k, hk, _, hz⟩ := h
  obtain ⟨j, hj, _, hy⟩ := g
  obtain ⟨hl, rfl⟩ := hk.only hj
  obtain ⟨rest, rfl, _⟩ := numsAt_prefix hz hy (by omega)
  have : rest = [] := by
    have e := hl
    simp at e
    exact e
  rw [this, List.append_nil]
theorem noList_of_noNum {s : ByteArray} (h : NoNum s 0) : NoList s := fun _ ⟨_, hk, _⟩ => h _ _ hk
theorem noList_great {s : ByteArray} {n k : Nat} (h : Num s 0 n k) (hn : 4096 < n) : NoList s := by
  intro zs ⟨j, hj, hl, _⟩
  obtain ⟨rfl, _⟩ := h.only hj
  omega
/-- One number is missing. -/
theorem noList_stop {s : ByteArray} {n k q : Nat} {zs : List Nat} (h : Num s 0 n k) (hz : NumsAt s k zs q) (hl : zs.length < n) (hq : NoNum s q) : NoList s := by
  intro ys ⟨j, hj, _, hy⟩
  obtain ⟨e, rfl⟩ := h.only hj
  obtain ⟨rest, e2, hr⟩ := numsAt_prefix hz hy (by omega)
  cases rest with
  | nil => rw [List.append_nil] at e2; rw [e2] at e; omega
  | cons y rest =>
    obtain ⟨i, hi, _⟩ := hr
    exact hq _ _ hi
/-- Something stands behind the list. -/
theorem noList_more {s : ByteArray} {n k q : Nat} {zs : List Nat} (h : Num s 0 n k) (hz : NumsAt s k zs q) (hl : zs.length = n) (hq : q ≠ s.size) : NoList s := by
  intro ys ⟨j, hj, _, hy⟩
  obtain ⟨e, rfl⟩ := h.only hj
  obtain ⟨rest, e2, hr⟩ := numsAt_prefix hz hy (by omega)
  have : rest = [] := by
    have e3 := congrArg List.length e2
    rw [List.length_append] at e3
    exact List.eq_nil_of_length_eq_zero (by omega)
  subst this
  exact hq hr.symm
theorem listed_of {s : ByteArray} {n k q : Nat} {zs : List Nat} (h : Num s 0 n k) (hn : n ≤ 4096) (hz : NumsAt s k zs q) (hl : zs.length = n) (hq : q = s.size) : Listed s zs := by
  subst hl hq
  exact ⟨k, h, hn, hz⟩
theorem Num.le {s : ByteArray} {p n k : Nat} (h : Num s p n k) : p + k ≤ s.size := h.1.2.2.1
theorem Num.one {s : ByteArray} {p n k : Nat} (h : Num s p n k) : 1 ≤ k := h.1.1
theorem Num.five {s : ByteArray} {p n k : Nat} (h : Num s p n k) : k ≤ 5 := h.1.2.1
theorem Num.val_le {s : ByteArray} {p n k : Nat} (h : Num s p n k) : n ≤ 999999999 := h.2.2.2

theorem isEnd_uncut {s : ByteArray} {p k : Nat} (h : IsEnd s p k) : IsEnd (s.extract p s.size) 0 k := by
  obtain ⟨h1, h2, h3, h4, h5⟩ := h
  refine ⟨h1, h2, by simp; omega, fun i hi => ?_, ?_⟩
  · rw [bt_cut]; simpa using h4 i hi
  · rw [bt_cut, show p + (0 + k - 1) = p + k - 1 by omega]; exact h5
theorem num_uncut {s : ByteArray} {p n k : Nat} (h : Num s p n k) : Num (s.extract p s.size) 0 n k := by
  obtain ⟨h1, h2, h3, h4⟩ := h
  refine ⟨isEnd_uncut h1, ?_, ?_, h4⟩
  · rw [bt_cut, show p + (0 + k - 1) = p + k - 1 by have := h1.1; omega]; exact h2
  · rw [h3, val_cut]
theorem noNum_cut {s : ByteArray} {p : Nat} (h : NoNum (s.extract p s.size) 0) : NoNum s p := fun n k hn => h n k (num_uncut hn)
theorem cut_cut (s : ByteArray) (p k : Nat) : (s.extract p s.size).extract k (s.extract p s.size).size = s.extract (p + k) s.size := by
  apply ByteArray.ext
  simp only [ByteArray.data_extract, ByteArray.size_extract, Array.extract_extract]
  congr 1
  omega
end Go.Proofs.YtiokkoaalakakaaGreatDoor
