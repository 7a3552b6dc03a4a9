/-
  FnBugs, part 42 of 50 (BugBk, InsW).
-/
import Derived.Test.YtkmnnmgopnoffaaDoorJ35
import Derived.Test.YtkmnnmgopnoffaaDoorJ41
import Derived.Test.YtkmnnmgopnoffaaDoorJ40
import Derived.Test.YtkmnnmgopnoffaaDoorJ06
import Derived.Test.YtkmnnmgopnoffaaDoorJ09
import Derived.Deep.RegionHeld3

/-
  A right bug's text tells the bug.
-/
namespace Go.Proofs.YtkmnnmgopnoffaaDoor
open Go.RowKit

theorem pcs_of (s : ByteArray) (ps : List ByteArray) (h : splitL s.data.toList = ps.map (·.data.toList)) : pcs s = ps := data_inj (by rw [pcs_data, h])
theorem dig_dec : ∀ a, a < 6 → IsDec (digT a) a := by
  intro a ha
  have hc : a = 0 ∨ a = 1 ∨ a = 2 ∨ a = 3 ∨ a = 4 ∨ a = 5 := by omega
  rcases hc with rfl | rfl | rfl | rfl | rfl | rfl <;> exact ⟨by decide, by decide, by decide, by unfold allDig; decide, by decide⟩
theorem apart12 : ∀ j, j < 12 → ¬ (wordB j).toList = (wordB 12).toList := by
  intro j hj
  rw [ByteArray.toList_eq, ByteArray.toList_eq]
  match j, hj with
  | 0, _ => decide
  | 1, _ => decide
  | 2, _ => decide
  | 3, _ => decide
  | 4, _ => decide
  | 5, _ => decide
  | 6, _ => decide
  | 7, _ => decide
  | 8, _ => decide
  | 9, _ => decide
  | 10, _ => decide
  | 11, _ => decide
theorem apart13 : ∀ j, j < 13 → ¬ (wordB j).toList = (wordB 13).toList := by
  intro j hj
  rw [ByteArray.toList_eq, ByteArray.toList_eq]
  match j, hj with
  | 0, _ => decide
  | 1, _ => decide
  | 2, _ => decide
  | 3, _ => decide
  | 4, _ => decide
  | 5, _ => decide
  | 6, _ => decide
  | 7, _ => decide
  | 8, _ => decide
  | 9, _ => decide
  | 10, _ => decide
  | 11, _ => decide
  | 12, _ => decide
theorem code_word (k : Nat) (hk : k = 12 ∨ k = 13) : IsCode (wordB k) (k : Int) := by
  rcases hk with rfl | rfl
  · exact .inl ⟨12, by omega, rfl, rfl, apart12⟩
  · exact .inl ⟨13, by omega, rfl, rfl, apart13⟩
theorem split_word : ∀ (l r : List UInt8), (∀ x ∈ l, x ≠ 32) → splitL (l ++ 32 :: r) = l :: splitL r
  | [], r, _ => by simp [splitL]
  | x :: l, r, h => by
    have := split_word l r (fun y hy => h y (List.mem_cons_of_mem _ hy))
    have hx : x ≠ 32 := h x (List.mem_cons_self ..)
    simp [splitL, this, hx]
theorem split_last : ∀ (l : List UInt8), (∀ x ∈ l, x ≠ 32) → splitL l = [l]
  | [], _ => by simp [splitL]
  | x :: l, h => by
    have := split_last l (fun y hy => h y (List.mem_cons_of_mem _ hy))
    have hx : x ≠ 32 := h x (List.mem_cons_self ..)
    simp [splitL, this, hx]
theorem word_plain (k : Nat) (hk : k = 12 ∨ k = 13 ∨ k = 14) : ∀ x ∈ (wordB k).data.toList, x ≠ 32 := by
  rcases hk with rfl | rfl | rfl <;> decide
theorem dig_plain (a : Nat) (ha : a < 6) : ∀ x ∈ (digT a).data.toList, x ≠ 32 := by
  have hc : a = 0 ∨ a = 1 ∨ a = 2 ∨ a = 3 ∨ a = 4 ∨ a = 5 := by omega
  rcases hc with rfl | rfl | rfl | rfl | rfl | rfl <;> decide
theorem pcs_dead : pcs dead = [wordB 14] := pcs_of _ _ (by rw [show dead = wordB 14 from rfl, split_last _ (word_plain 14 (by omega))]; rfl)
theorem pcs_txt (k a b : Nat) (hk : k = 12 ∨ k = 13) (ha : a < 3) (hb : b < 6) : pcs (txtB k a b) = [wordB k, digT a, digT b] := by
  refine pcs_of _ _ ?_
  have e : (txtB k a b).data.toList = (wordB k).data.toList ++ 32 :: ((digT a).data.toList ++ 32 :: (digT b).data.toList) := by
    simp [txtB]
  rw [e, split_word _ _ (word_plain k (by omega)), split_word _ _ (dig_plain a (by omega)), split_last _ (dig_plain b hb)]
  rfl
theorem text_back {x : I3} (h : okB x = true) : IsBug (pcs (textB x)) x := by
  rcases okB_cases h with rfl | ⟨k, a, b, hk, ha, hb, rfl⟩
  · rw [show textB (14, 0, 0) = dead from by simp [textB, h], pcs_dead]
    exact .inl ⟨rfl, rfl, rfl⟩
  · have h14 : ¬ ((k : Int) = 14) := by omega
    rw [show textB ((k : Int), (a : Int), (b : Int)) = txtB k a b from by simp [textB, h, h14], pcs_txt k a b hk ha hb]
    exact .inr ⟨rfl, a, b, k, dig_dec a (by omega), dig_dec b hb, code_word k hk, h14, h, rfl⟩
theorem textB_size (x : I3) (h : okB x = true) : (textB x).size ≤ 12 := by
  rcases okB_cases h with rfl | ⟨k, a, b, hk, ha, hb, rfl⟩
  · rw [show textB (14, 0, 0) = dead from by simp [textB, h]]
    have := wordB_size 14 (by omega)
    show (wordB 14).size ≤ 12
    omega
  · have h14 : ¬ ((k : Int) = 14) := by omega
    rw [show textB ((k : Int), (a : Int), (b : Int)) = txtB k a b from by simp [textB, h, h14]]
    exact (txtB_parts k a b hk).2.2.2.2
end Go.Proofs.YtkmnnmgopnoffaaDoor


/-
  impl.instrOfWords: an instruction read from its words.
-/
namespace Go.Proofs.YtkmnnmgopnoffaaDoor
open Go.RowKit

/-- s[1:] of a slice of strings. -/
theorem slice_strs {w : World} {b off len cap lo : Nat} {xs : List ByteArray} (h : Strs w (some ⟨b, off, none⟩) len cap xs) (h1 : lo ≤ len) :
    ∃ a, (∀ W, (Instr.slice 117 (.slice (some ⟨b, off, none⟩) len cap) (some (.int .i64 (lo : Int))) none none).run Tryd.prog W = .ok (.slice a (len - lo) (cap - lo)) W) ∧ Strs w a (len - lo) (cap - lo) (xs.drop lo) := by
  obtain ⟨hl, hlc, hcm, hcase⟩ := h
  have hlh : (lo : Int) ≤ (len : Int) := by omega
  by_cases hz : cap - lo = 0
  · refine ⟨some ⟨b, off, none⟩, fun W => ?_, by rw [List.length_drop]; omega, by omega, by omega, .inl (by omega)⟩
    go_simp
    omega
  · refine ⟨some ⟨b, off + lo, none⟩, fun W => ?_, by rw [List.length_drop]; omega, by omega, by omega, ?_⟩
    · go_simp
      omega
    · rcases hcase with h0 | ⟨b', off', he, hb, hc⟩
      · exact .inl (by omega)
      · cases he
        refine .inr ⟨b, off + lo, rfl, hb, fun t ht => ?_⟩
        have := hc (lo + t) (by omega)
        rw [show off + lo + t = off + (lo + t) by omega, this]
        simp [List.getD]

theorem box3_new (w : World) (x y z : Value) (t B : Nat) (hB : B ≤ w.heap.size) : (w.alloc (.cells #[x, y, z] t)).ownsRow B t 3 (.slice (some ⟨w.heap.size, 0, none⟩) 1 1) 1 [x, y, z] := World.ownsRow_lit w #[x, y, z] 1 hB (by unfold maxLen; omega) rfl

end Go.Proofs.YtkmnnmgopnoffaaDoor
