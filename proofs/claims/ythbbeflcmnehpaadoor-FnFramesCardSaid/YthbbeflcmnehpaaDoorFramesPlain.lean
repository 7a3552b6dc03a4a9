/-
  Plain mathematics for FnFrames: the frame of a short text, the frame with another byte in its text, the frame without its last byte.
-/
import Derived.Test.YthbbeflcmnehpaaDoorFrame
import Derived.Test.YthbbeflcmnehpaaDoorUnframe
import Derived.Test.YthbbeflcmnehpaaDoorPackRead
namespace Go.Proofs.YthbbeflcmnehpaaDoor

theorem headOf_short {t : ByteArray} (h : t.size < 128) : headOf t = [(t.size : Int), sumTo t t.size / 256, sumTo t t.size % 256] := by
  unfold headOf
  rw [pack_small h]
  rfl
theorem headOf_byte {t : ByteArray} (h : t.size < 128) : ∀ x ∈ headOf t, 0 ≤ x ∧ x ≤ 255 := by
  have hs := sum_lt t
  rw [headOf_short h]
  intro x hx
  simp at hx
  omega
theorem frame_size {t : ByteArray} (h : t.size < 128) : (frameOf t).size = t.size + 3 := by
  unfold frameOf
  rw [ByteArray.size_append, strOfNums_size, headOf_short h]
  simp
  omega
theorem frame_bytes {t : ByteArray} (h : t.size < 128) : bytesAt (frameOf t) 0 (headOf t) := bytesAt_app (bytesAt_str _ (headOf_byte h))
/-- A text whose first three bytes are those of t's frame, and that is as long as that frame at least. -/
def Heads (s t : ByteArray) : Prop := t.size + 3 ≤ s.size ∧ bt s 0 = t.size ∧ sumAt s 1 = sumTo t t.size
theorem heads_of {s t : ByteArray} (h : t.size < 128) (hs : t.size + 3 ≤ s.size) (h0 : bt s 0 = bt (frameOf t) 0) (h1 : bt s 1 = bt (frameOf t) 1) (h2 : bt s 2 = bt (frameOf t) 2) : Heads s t := by
  have hb := (frame_bytes h).2
  have hsum := sum_lt t
  rw [headOf_short h] at hb
  have b0 := hb 0 (by simp)
  have b1 := hb 1 (by simp)
  have b2 := hb 2 (by simp)
  simp at b0 b1 b2
  refine ⟨hs, by omega, ?_⟩
  unfold sumAt
  rw [h1, h2, b1]
  have : ((bt (frameOf t) (1 + 1) : Nat) : Int) = sumTo t t.size % 256 := b2
  rw [show bt (frameOf t) 2 = bt (frameOf t) (1 + 1) from rfl, this]
  omega
theorem num_heads {s t : ByteArray} (h : t.size < 128) (hs : Heads s t) : Num s 0 t.size 1 := by
  obtain ⟨h1, h2, _⟩ := hs
  refine ⟨⟨by omega, by omega, by omega, fun i hi => by omega, ?_⟩, by omega, ?_, by omega⟩
  · rw [show 0 + 1 - 1 = 0 from rfl, h2]; exact h
  · simp only [val]; rw [h2]; omega
theorem framed_heads {s t : ByteArray} (h : t.size < 128) (hs : Heads s t) : Framed s t.size 1 := ⟨num_heads h hs, by omega, by have := hs.1; omega⟩
theorem noFrame_short {s t : ByteArray} (h : t.size < 128) (hs : s.size < t.size + 3) (h3 : 1 ≤ s.size) (h0 : bt s 0 = t.size) : NoFrame s := by
  have hn : Num s 0 t.size 1 := by
    refine ⟨⟨by omega, by omega, by omega, fun i hi => by omega, ?_⟩, by omega, ?_, by omega⟩
    · rw [show 0 + 1 - 1 = 0 from rfl, h0]; exact h
    · simp only [val]; rw [h0]; omega
  exact noFrame_of_num hn (fun hc => by omega)
theorem frame_cut (t b : ByteArray) (h : t.size < 128) : (frameOf t ++ b).extract 3 (3 + t.size) = t := by
  apply ByteArray.ext
  have e : (strOfNums (headOf t)).data.size = 3 := by
    have := strOfNums_size (headOf t)
    rw [headOf_short h] at this ⊢
    exact this
  simp only [ByteArray.data_extract, frameOf, ByteArray.data_append]
  apply Array.ext'
  simp [Array.toList_extract, List.extract_eq_take_drop, e]
  rw [List.drop_of_length_le (by rw [Array.length_toList, e]; exact Nat.le_refl _), List.take_nil, List.nil_append, List.take_of_length_le (by rw [Array.length_toList]; exact Nat.le_refl _)]
/-- What UnframeText answers of a text that begins with t's frame's head. -/
theorem unframed_good {s : ByteArray} {n k : Nat} {e : Ending} (h : Unframed s e) (hf : Framed s n k) (hs : sumAt s k = sumTo (frameText s n k) (frameText s n k).size) : e = .returned (.tuple #[.string (frameText s n k), .int .i64 ((k + 2 + n : Nat) : Int), .int .i64 0]) :=
  h.same (.inl ⟨n, k, hf, hs, rfl⟩)
theorem unframed_bad {s : ByteArray} {n k : Nat} {e : Ending} (h : Unframed s e) (hf : Framed s n k) (hs : sumAt s k ≠ sumTo (frameText s n k) (frameText s n k).size) : e = .returned (.tuple #[.string ByteArray.empty, .int .i64 0, .int .i64 9]) :=
  h.same (.inr (.inl ⟨n, k, hf, hs, rfl⟩))
theorem unframed_none {s : ByteArray} {e : Ending} (h : Unframed s e) (hn : NoFrame s) : e = .returned (.tuple #[.string ByteArray.empty, .int .i64 0, .int .i64 3]) :=
  h.same (.inr (.inr ⟨hn, rfl⟩))

/-- The frame with one byte turned. -/
theorem bent_size (f u : ByteArray) (k : Nat) (hk : k < f.size) (hu : u.size = 1) : (f.extract 0 k ++ u ++ f.extract (k + 1) f.size).size = f.size := by
  simp [ByteArray.size_append, hu]
  omega
theorem bent_bt (f u : ByteArray) (k i : Nat) (hk : k < f.size) (hi : i < k) : bt (f.extract 0 k ++ u ++ f.extract (k + 1) f.size) i = bt f i := by
  have h1 : (f.extract 0 k).size = k := by simp; omega
  rw [bt_app _ _ i (by rw [ByteArray.size_append, h1]; omega), bt_app _ _ i (by omega), bt_head f k i hi (by omega)]
end Go.Proofs.YthbbeflcmnehpaaDoor
