
/-
  Plain mathematics of a number's digits: at most 18, none needless ahead; the digits of the value are the text itself.
-/
import Derived.Test.YtkmnnmgopnoffaaDoorTake
import Derived.Laws.BytesArg
namespace Go.Proofs.YtkmnnmgopnoffaaDoor

/-- What the first k digits come to. -/
def digVal (s : ByteArray) : Nat → Nat
  | 0 => 0
  | k + 1 => 10 * digVal s k + (bt s k - 48)
def allDig (s : ByteArray) (k : Nat) : Prop := ∀ i, i < k → 48 ≤ bt s i ∧ bt s i ≤ 57
theorem allDig_zero (s : ByteArray) : allDig s 0 := fun i h => absurd h (by omega)
theorem allDig_succ {s : ByteArray} {k : Nat} (h : allDig s k) (h1 : 48 ≤ bt s k) (h2 : bt s k ≤ 57) : allDig s (k + 1) := by
  intro i hi
  rcases Nat.lt_or_ge i k with h' | h'
  · exact h i h'
  · obtain rfl : i = k := by omega
    exact ⟨h1, h2⟩
theorem digVal_lt {s : ByteArray} : ∀ {k : Nat}, allDig s k → digVal s k < 10 ^ k
  | 0, _ => by simp [digVal]
  | k + 1, h => by
    have ih := digVal_lt (k := k) (fun i hi => h i (by omega))
    have := h k (by omega)
    rw [digVal, Nat.pow_succ]
    omega
theorem digVal_small {s : ByteArray} {k : Nat} (h : allDig s k) (hk : k ≤ 18) : digVal s k < 1000000000000000000 := by
  have h1 := digVal_lt h
  have h2 : 10 ^ k ≤ 10 ^ 18 := Nat.pow_le_pow_right (by omega) hk
  have : (10 : Nat) ^ 18 = 1000000000000000000 := by decide
  omega
theorem digVal_small' {s : ByteArray} {k : Nat} (h : allDig s k) (hk : k ≤ 17) : digVal s k < 100000000000000000 := by
  have h1 := digVal_lt h
  have h2 : 10 ^ k ≤ 10 ^ 17 := Nat.pow_le_pow_right (by omega) hk
  have : (10 : Nat) ^ 17 = 100000000000000000 := by decide
  omega

/-- The text is the number n, as it is told. -/
def IsDec (s : ByteArray) (n : Nat) : Prop := 1 ≤ s.size ∧ s.size ≤ 18 ∧ ¬ (1 < s.size ∧ bt s 0 = 48) ∧ allDig s s.size ∧ n = digVal s s.size
def NoDec (s : ByteArray) : Prop := ∀ n, ¬ IsDec s n
theorem IsDec.only {s : ByteArray} {n m : Nat} (h : IsDec s n) (g : IsDec s m) : n = m := h.2.2.2.2.trans g.2.2.2.2.symm
theorem IsDec.lt {s : ByteArray} {n : Nat} (h : IsDec s n) : n < 1000000000000000000 := by
  obtain ⟨_, h2, _, h4, rfl⟩ := h
  exact digVal_small h4 h2
theorem noDec_empty {s : ByteArray} (h : s.size = 0) : NoDec s := fun n hn => by have := hn.1; omega
theorem noDec_long {s : ByteArray} (h : 18 < s.size) : NoDec s := fun n hn => by have := hn.2.1; omega
theorem noDec_zero {s : ByteArray} (h : 1 < s.size) (h0 : bt s 0 = 48) : NoDec s := fun _ hn => hn.2.2.1 ⟨h, h0⟩
theorem noDec_at {s : ByteArray} {k : Nat} (hk : k < s.size) (h : ¬ (48 ≤ bt s k ∧ bt s k ≤ 57)) : NoDec s := fun _ hn => h (hn.2.2.2.1 k hk)

/-- A number's digits. -/
def decT (n : Nat) : ByteArray := if _h : n < 10 then strOfNums [48 + (n : Int)] else decT (n / 10) ++ strOfNums [48 + ((n % 10 : Nat) : Int)]
termination_by n
decreasing_by omega

theorem byte_at (s : ByteArray) (k : Nat) (hk : k < s.size) {d : Nat} (hd : bt s k = 48 + d) : strOfNums [48 + (d : Int)] = s.extract k (k + 1) := by
  have e : UInt8.ofNat (48 + d) = s[k]'hk := by
    rw [← hd, ← bt_get s k hk]
    simp
  have e2 : (48 + (d : Int)).toNat = 48 + d := by omega
  apply ByteArray.ext
  apply Array.ext
  · simp [strOfNums]; omega
  · intro i h1 h2
    obtain rfl : i = 0 := by simp [strOfNums] at h1; omega
    simp only [strOfNums, List.map_cons, List.map_nil, e2]
    simp only [List.getElem_toArray, List.getElem_cons_zero]
    rw [e]
    simp [ByteArray.data_extract]
    rfl
theorem digVal_pos {s : ByteArray} : ∀ {k : Nat}, 1 ≤ k → allDig s k → bt s 0 ≠ 48 → 1 ≤ digVal s k
  | 0, h, _, _ => by omega
  | 1, _, h, h0 => by
    have := h 0 (by omega)
    simp only [digVal]
    omega
  | k + 2, _, h, h0 => by
    have := digVal_pos (k := k + 1) (by omega) (fun i hi => h i (by omega)) h0
    rw [digVal]
    omega
theorem decT_digVal {s : ByteArray} : ∀ {k : Nat}, 1 ≤ k → k ≤ s.size → allDig s k → ¬ (1 < k ∧ bt s 0 = 48) → decT (digVal s k) = s.extract 0 k
  | 0, h, _, _, _ => by omega
  | 1, _, hs, h, _ => by
    have hd := h 0 (by omega)
    have e : digVal s 1 = bt s 0 - 48 := by simp [digVal]
    rw [e, decT, dif_pos (by omega)]
    exact byte_at s 0 (by omega) (by omega)
  | k + 2, _, hs, h, h0 => by
    have hd := h (k + 1) (by omega)
    have hne : bt s 0 ≠ 48 := fun e => h0 ⟨by omega, e⟩
    have ih := decT_digVal (k := k + 1) (by omega) (by omega) (fun i hi => h i (by omega)) (fun hh => hne hh.2)
    have hp := digVal_pos (k := k + 1) (by omega) (fun i hi => h i (by omega)) hne
    have e : digVal s (k + 2) = 10 * digVal s (k + 1) + (bt s (k + 1) - 48) := rfl
    generalize digVal s (k + 1) = m at ih hp e
    rw [e, decT, dif_neg (by omega), show (10 * m + (bt s (k + 1) - 48)) / 10 = m by omega, show (10 * m + (bt s (k + 1) - 48)) % 10 = bt s (k + 1) - 48 by omega, ih, byte_at s (k + 1) (by omega) (by omega : bt s (k + 1) = 48 + (bt s (k + 1) - 48))]
    rw [ByteArray.extract_append_extract]
    congr 1 <;> omega
theorem IsDec.text {s : ByteArray} {n : Nat} (h : IsDec s n) : decT n = s := by
  obtain ⟨h1, _, h3, h4, rfl⟩ := h
  rw [decT_digVal h1 (Nat.le_refl _) h4 h3]
  simp
theorem decT_size : ∀ (f n : Nat), n < 10 ^ (f + 1) → (decT n).size ≤ f + 1
  | 0, n, h => by
    rw [decT, dif_pos (by simpa using h)]
    simp [strOfNums_size]
  | f + 1, n, h => by
    by_cases hn : n < 10
    · rw [decT, dif_pos hn]
      simp [strOfNums_size]
    · rw [decT, dif_neg hn, ByteArray.size_append, strOfNums_size]
      have := decT_size f (n / 10) (by rw [Nat.pow_succ] at h; omega)
      simp
      omega
end Go.Proofs.YtkmnnmgopnoffaaDoor
