/-
  FnProgram, part 30 of 50 (PackRead).
-/
import Derived.Test.YtiokkoaalakakaaGreatDoorJ05
import Derived.Test.YtiokkoaalakakaaGreatDoorJ26
/-
  Plain mathematics: a number's bytes are read back as that number, a list's bytes as that list; with a byte more or a byte fewer they are none.
-/
namespace Go.Proofs.YtiokkoaalakakaaGreatDoor

theorem pack_byte' (n : Nat) (h2 : n < 34359738368) (i : Nat) (hi : i < (pack n).length) : 0 ≤ (pack n).getD i 0 ∧ (pack n).getD i 0 ≤ 255 := by
  have hm : (pack n).getD i 0 ∈ pack n := by simp [List.getElem?_eq_getElem hi]
  exact pack_byte n h2 _ hm

/-- The bytes of s from p on begin with xs. -/
def bytesAt (s : ByteArray) (p : Nat) (xs : List Int) : Prop := p + xs.length ≤ s.size ∧ ∀ i, i < xs.length → (bt s (p + i) : Int) = xs.getD i 0
theorem bytesAt_left {s : ByteArray} {p : Nat} {xs ys : List Int} (h : bytesAt s p (xs ++ ys)) : bytesAt s p xs := by
  obtain ⟨h1, h2⟩ := h
  rw [List.length_append] at h1
  refine ⟨by omega, fun i hi => ?_⟩
  rw [h2 i (by rw [List.length_append]; omega)]
  simp [List.getD, List.getElem?_append_left hi]
theorem bytesAt_right {s : ByteArray} {p : Nat} {xs ys : List Int} (h : bytesAt s p (xs ++ ys)) : bytesAt s (p + xs.length) ys := by
  obtain ⟨h1, h2⟩ := h
  rw [List.length_append] at h1
  refine ⟨by omega, fun i hi => ?_⟩
  have := h2 (xs.length + i) (by rw [List.length_append]; omega)
  rw [show p + xs.length + i = p + (xs.length + i) by omega, this]
  simp [List.getD, List.getElem?_append_right (show xs.length ≤ xs.length + i by omega)]

theorem num_of_bytes {s : ByteArray} {p n : Nat} (hn : n ≤ 999999999) (h : bytesAt s p (pack n)) : Num s p n (pack n).length := by
  obtain ⟨hs, hb⟩ := h
  by_cases h1 : n < 128
  · rw [pack_small h1] at hs hb ⊢
    have b0 := hb 0 (by simp)
    simp at b0 hs
    refine ⟨⟨by simp, by simp, by simpa using hs, fun i hi => by simp at hi, by simp; omega⟩, by simp, ?_, hn⟩
    simp only [List.length_cons, List.length_nil, val]
    omega
  by_cases h2 : n < 16384
  · rw [pack2 (by omega) h2] at hs hb ⊢
    have b0 := hb 0 (by simp)
    have b1 := hb 1 (by simp)
    simp at b0 b1 hs
    refine ⟨⟨by simp, by simp, by simpa using hs, fun i hi => ?_, ?_⟩, ?_, ?_, hn⟩
    · simp at hi; obtain rfl : i = 0 := by omega
      simp; omega
    · simp only [List.length_cons, List.length_nil, show p + (0 + 1 + 1) - 1 = p + 1 by omega]; omega
    · simp only [List.length_cons, List.length_nil, show p + (0 + 1 + 1) - 1 = p + 1 by omega]; omega
    · simp only [List.length_cons, List.length_nil, val]; omega
  by_cases h3 : n < 2097152
  · rw [pack3 (by omega) h3] at hs hb ⊢
    have b0 := hb 0 (by simp)
    have b1 := hb 1 (by simp)
    have b2 := hb 2 (by simp)
    simp at b0 b1 b2 hs
    refine ⟨⟨by simp, by simp, by simpa using hs, fun i hi => ?_, ?_⟩, ?_, ?_, hn⟩
    · simp at hi
      have : i = 0 ∨ i = 1 := by omega
      rcases this with rfl | rfl
      · simp; omega
      · omega
    · simp only [List.length_cons, List.length_nil, show p + (0 + 1 + 1 + 1) - 1 = p + 2 by omega]; omega
    · simp only [List.length_cons, List.length_nil, show p + (0 + 1 + 1 + 1) - 1 = p + 2 by omega]; omega
    · simp only [List.length_cons, List.length_nil, val]; omega
  by_cases h4 : n < 268435456
  · rw [pack4 (by omega) h4] at hs hb ⊢
    have b0 := hb 0 (by simp)
    have b1 := hb 1 (by simp)
    have b2 := hb 2 (by simp)
    have b3 := hb 3 (by simp)
    simp at b0 b1 b2 b3 hs
    refine ⟨⟨by simp, by simp, by simpa using hs, fun i hi => ?_, ?_⟩, ?_, ?_, hn⟩
    · simp at hi
      have : i = 0 ∨ i = 1 ∨ i = 2 := by omega
      rcases this with rfl | rfl | rfl
      · simp; omega
      · omega
      · omega
    · simp only [List.length_cons, List.length_nil, show p + (0 + 1 + 1 + 1 + 1) - 1 = p + 3 by omega]; omega
    · simp only [List.length_cons, List.length_nil, show p + (0 + 1 + 1 + 1 + 1) - 1 = p + 3 by omega]; omega
    · simp only [List.length_cons, List.length_nil, val]; omega
  · rw [pack5 (by omega)] at hs hb ⊢
    have b0 := hb 0 (by simp)
    have b1 := hb 1 (by simp)
    have b2 := hb 2 (by simp)
    have b3 := hb 3 (by simp)
    have b4 := hb 4 (by simp)
    simp at b0 b1 b2 b3 b4 hs
    refine ⟨⟨by simp, by simp, by simpa using hs, fun i hi => ?_, ?_⟩, ?_, ?_, hn⟩
    · simp at hi
      have : i = 0 ∨ i = 1 ∨ i = 2 ∨ i = 3 := by omega
      rcases this with rfl | rfl | rfl | rfl
      · simp; omega
      · omega
      · omega
      · omega
    · simp only [List.length_cons, List.length_nil, show p + (0 + 1 + 1 + 1 + 1 + 1) - 1 = p + 4 by omega]; omega
    · simp only [List.length_cons, List.length_nil, show p + (0 + 1 + 1 + 1 + 1 + 1) - 1 = p + 4 by omega]; omega
    · simp only [List.length_cons, List.length_nil, val]; omega

def packsN (zs : List Nat) : List Int := zs.flatMap fun z => pack z
theorem numsAt_of_bytes {s : ByteArray} : ∀ {zs : List Nat} {p : Nat}, (∀ z ∈ zs, z ≤ 999999999) → bytesAt s p (packsN zs) → NumsAt s p zs (p + (packsN zs).length)
  | [], p, _, _ => by simp [packsN, NumsAt]
  | z :: zs, p, hz, h => by
    have e : packsN (z :: zs) = pack z ++ packsN zs := by simp [packsN]
    rw [e] at h ⊢
    refine ⟨_, num_of_bytes (hz z (by simp)) (bytesAt_left h), ?_⟩
    have := numsAt_of_bytes (fun y hy => hz y (by simp [hy])) (bytesAt_right h)
    rw [List.length_append, ← Nat.add_assoc]
    exact this

/-- The bytes of a text that is made of numbers. -/
theorem bt_str (xs : List Int) (h : ∀ x ∈ xs, 0 ≤ x ∧ x ≤ 255) (i : Nat) (hi : i < xs.length) : (bt (strOfNums xs) i : Int) = xs.getD i 0 := by
  have hs : i < (strOfNums xs).size := by rw [strOfNums_size]; exact hi
  unfold bt
  rw [dif_pos hs]
  have hx := h xs[i] (List.getElem_mem hi)
  have e : ((strOfNums xs)[i]'hs) = UInt8.ofNat xs[i].toNat := by
    show (strOfNums xs).data[i]'(by simpa using hs) = _
    simp [strOfNums]
  rw [e]
  simp [List.getElem?_eq_getElem hi]
  omega
theorem bytesAt_str (xs : List Int) (h : ∀ x ∈ xs, 0 ≤ x ∧ x ≤ 255) : bytesAt (strOfNums xs) 0 xs :=
  ⟨by rw [strOfNums_size]; omega, fun i hi => by rw [Nat.zero_add]; exact bt_str xs h i hi⟩
theorem bt_app (a b : ByteArray) (i : Nat) (h : i < a.size) : bt (a ++ b) i = bt a i := by
  unfold bt
  rw [dif_pos h, dif_pos (by rw [ByteArray.size_append]; omega), ByteArray.getElem_append_left h]
theorem bytesAt_app {a b : ByteArray} {xs : List Int} (h : bytesAt a 0 xs) : bytesAt (a ++ b) 0 xs := by
  obtain ⟨h1, h2⟩ := h
  refine ⟨by rw [ByteArray.size_append]; omega, fun i hi => ?_⟩
  rw [Nat.zero_add, bt_app a b i (by omega)]
  have := h2 i hi
  rwa [Nat.zero_add] at this
end Go.Proofs.YtiokkoaalakakaaGreatDoor
