/-
  The program's NameOK: a loop over runes; it answers true just at a name.
-/
import Derived.Test.YthbbeflcmnehpagName2
namespace Go.Proofs.Ythbbeflcmnehpag
open Go.RowKit

theorem high_no {n : Int} (h : 128 ≤ n) : ¬ isLet n ∧ ¬ isDig n := by unfold isLet isDig; omega

set_option maxHeartbeats 1000000 in
theorem implNameOK_any (s : ByteArray) (w : World) (hs : s.size ≤ maxLen) :
    Calls Try.prog 7 #[.string s] w fun e w' => Ans e (isName s) ∧ Below w.heap.size w w' := by
  unfold maxLen at hs
  by_cases h0 : s.size < 1
  · have hz : s.toList.isEmpty = true := by rw [← decide_eq_emptyBytes]; simpa using h0
    go_enter Try.func7, Try.ntmps7
    go_wp2
    go_ret
    exact ⟨ans_false fun h => by have := h.1; omega, Below.refl _ _⟩
  have hz : s.toList.isEmpty = false := by rw [← decide_eq_emptyBytes]; simpa using h0
  by_cases h1 : 40 < s.size
  · go_enter Try.func7, Try.ntmps7
    go_wp2
    go_ret
    exact ⟨ans_false fun h => by have := h.2.1; omega, Below.refl _ _⟩
  go_enter Try.func7, Try.ntmps7
  go_wp2
  go_loopw [3] (fun _ wr => ∃ pos : Nat, pos ≤ s.size ∧ wr = w.iter s pos ∧ goodTo s pos) (fun _ wr => s.size - wr.iterPos w.heap.size)
  case atStart => exact ⟨0, by omega, rfl, goodTo_zero s⟩
  case round =>
    obtain ⟨pos, hpl, rfl, hg⟩ := hrel
    by_cases hp : pos < s.size
    · by_cases ha : (s[pos]'hp).toNat < 128
      · have hnx : ∀ ty, (Instr.next (.pointer (some ⟨w.heap.size, 0, none⟩)) true ty).run Try.prog (w.iter s pos) = _ := fun ty => run_next_ascii w s pos ty hp ha
        by_cases hl : isLet ((s[pos]'hp).toNat : Int)
        · go_wp2_with (go_at_call 15; refine (isLetter_any _ _).mono ?_; rintro e w' ⟨ha, rfl⟩; obtain rfl := ha.yes hl; clear ha)
          go_roundw
          case rel => exact ⟨pos + 1, by omega, rfl, goodTo_succ hg hp (.inl hl)⟩
          case measure => simp; omega
        · by_cases hz0 : pos = 0
          · subst hz0
            go_wp2_with (go_at_call 15; refine (isLetter_any _ _).mono ?_; rintro e w' ⟨ha, rfl⟩; obtain rfl := ha.no hl; clear ha)
            go_ret
            exact ⟨ans_false (not_isName_at hp hl fun h => by omega), (Below.refl _ _).alloc (Nat.le_refl _) _⟩
          · have hne : ((pos : Int) == 0) = false := by simp; omega
            by_cases hd : isDig ((s[pos]'hp).toNat : Int)
            · go_wp2_with (first | (go_at_call 15; refine (isLetter_any _ _).mono ?_; rintro e w' ⟨ha, rfl⟩; obtain rfl := ha.no hl; clear ha) | (go_at_call 16; refine (isDigit_any _ _).mono ?_; rintro e w' ⟨ha, rfl⟩; obtain rfl := ha.yes hd; clear ha))
              go_roundw
              case rel => exact ⟨pos + 1, by omega, rfl, goodTo_succ hg hp (.inr ⟨by omega, hd⟩)⟩
              case measure => simp; omega
            · go_wp2_with (first | (go_at_call 15; refine (isLetter_any _ _).mono ?_; rintro e w' ⟨ha, rfl⟩; obtain rfl := ha.no hl; clear ha) | (go_at_call 16; refine (isDigit_any _ _).mono ?_; rintro e w' ⟨ha, rfl⟩; obtain rfl := ha.no hd; clear ha))
              go_ret
              exact ⟨ans_false (not_isName_at hp hl fun h => hd h.2), (Below.refl _ _).alloc (Nat.le_refl _) _⟩
      · have hnx : ∀ ty, (Instr.next (.pointer (some ⟨w.heap.size, 0, none⟩)) true ty).run Try.prog (w.iter s pos) = _ := fun ty => run_next_any w s pos ty hp
        have hh := (decode_high s pos hp (by omega)).1
        obtain ⟨hl, hd⟩ := high_no (n := ((Utf8.decode s pos).1 : Int)) (by omega)
        obtain ⟨hl', hd'⟩ := high_no (n := ((s[pos]'hp).toNat : Int)) (by omega)
        by_cases hz0 : pos = 0
        · subst hz0
          go_wp2_with (go_at_call 15; refine (isLetter_any _ _).mono ?_; rintro e w' ⟨ha, rfl⟩; obtain rfl := ha.no hl; clear ha)
          go_ret
          exact ⟨ans_false (not_isName_at hp hl' fun h => by omega), (Below.refl _ _).alloc (Nat.le_refl _) _⟩
        · have hne : ((pos : Int) == 0) = false := by simp; omega
          go_wp2_with (first | (go_at_call 15; refine (isLetter_any _ _).mono ?_; rintro e w' ⟨ha, rfl⟩; obtain rfl := ha.no hl; clear ha) | (go_at_call 16; refine (isDigit_any _ _).mono ?_; rintro e w' ⟨ha, rfl⟩; obtain rfl := ha.no hd; clear ha))
          go_ret
          exact ⟨ans_false (not_isName_at hp hl' fun h => hd' h.2), (Below.refl _ _).alloc (Nat.le_refl _) _⟩
    · have hnx : ∀ ty, (Instr.next (.pointer (some ⟨w.heap.size, 0, none⟩)) true ty).run Try.prog (w.iter s pos) = _ := fun ty => run_next_end w s pos ty hp
      go_wp2
      go_ret
      obtain rfl : pos = s.size := by omega
      exact ⟨ans_true (isName_of (by omega) (by omega) hg), (Below.refl _ _).alloc (Nat.le_refl _) _⟩
end Go.Proofs.Ythbbeflcmnehpag
