/-
  A text is found to be a name by the program just where the specification finds it one: the specification's loop over bytes and the program's loop over runes, by contracts.
-/
import Derived.Test.YthbbeflcmnehpagName
namespace Go.Proofs.Ythbbeflcmnehpag
open Go.RowKit

theorem Ans.yes {e : Ending} {P : Prop} (h : Ans e P) (p : P) : e = .returned (.bool true) := by
  obtain ⟨b, rfl, hb⟩ := h
  rw [hb.2 p]
theorem Ans.no {e : Ending} {P : Prop} (h : Ans e P) (p : ¬ P) : e = .returned (.bool false) := by
  obtain ⟨b, rfl, hb⟩ := h
  cases b
  · rfl
  · exact absurd (hb.1 rfl) p
theorem ans_true {P : Prop} (h : P) : Ans (.returned (.bool true)) P := ⟨true, rfl, by simp [h]⟩
theorem ans_false {P : Prop} (h : ¬ P) : Ans (.returned (.bool false)) P := ⟨false, rfl, by simp [h]⟩

/-- The first k bytes fit. -/
def goodTo (s : ByteArray) (k : Nat) : Prop := ∀ i (h : i < s.size), i < k → fits i (s[i]'h).toNat
theorem goodTo_succ {s : ByteArray} {k : Nat} (h : goodTo s k) (hk : k < s.size) (hf : fits k (s[k]'hk).toNat) : goodTo s (k + 1) := by
  intro i hi hik
  rcases Nat.lt_or_ge i k with hl | hl
  · exact h i hi hl
  · obtain rfl : i = k := by omega
    exact hf
theorem goodTo_zero (s : ByteArray) : goodTo s 0 := fun i _ h => absurd h (by omega)
theorem isName_of {s : ByteArray} (h0 : 0 < s.size) (h1 : s.size ≤ 40) (h : goodTo s s.size) : isName s := ⟨h0, h1, fun i hi => h i hi hi⟩
theorem not_isName_at {s : ByteArray} {k : Nat} (hk : k < s.size) (hl : ¬ isLet (s[k]'hk).toNat) (hd : ¬ (0 < k ∧ isDig (s[k]'hk).toNat)) : ¬ isName s := by
  intro h
  rcases h.2.2 k hk with h | h
  · exact hl h
  · exact hd h

set_option maxHeartbeats 1000000 in
theorem l00Word_any (s : ByteArray) (w : World) (hs : s.size ≤ maxLen) :
    Calls Try.prog 14 #[.string s] w fun e w' => Ans e (isName s) ∧ w' = w := by
  unfold maxLen at hs
  by_cases h0 : s.size < 1
  · go_enter Try.func14, Try.ntmps14
    go_wp2
    go_ret
    exact ⟨ans_false fun h => by have := h.1; omega, rfl⟩
  by_cases h1 : 40 < s.size
  · go_enter Try.func14, Try.ntmps14
    go_wp2
    go_ret
    exact ⟨ans_false fun h => by have := h.2.1; omega, rfl⟩
  have hp : 0 < s.size := by omega
  by_cases hL : isLet ((s[0]'hp).toNat : Int)
  · go_enter Try.func14, Try.ntmps14
    go_wp2_with (go_at_call 22; refine (l00Letter_any _ _).mono ?_; rintro e w' ⟨ha, rfl⟩; obtain rfl := ha.yes hL; clear ha)
    go_loop [3] (fun i => ∃ k : Nat, 1 ≤ k ∧ k ≤ s.size ∧ i = .int .i64 k ∧ goodTo s k) (fun i => s.size - (intOf i).toNat)
    case atStart => exact ⟨1, by omega, by omega, rfl, goodTo_succ (goodTo_zero s) hp (.inl hL)⟩
    case round =>
      obtain ⟨k, hk1, hk, rfl, hg⟩ := hrel
      by_cases hlt : k < s.size
      · by_cases hl : isLet ((s[k]'hlt).toNat : Int)
        · go_wp2_with (go_at_call 22; refine (l00Letter_any _ _).mono ?_; rintro e w' ⟨ha, rfl⟩; obtain rfl := ha.yes hl; clear ha)
          go_round
          case rel => exact ⟨k + 1, by omega, by omega, by go_num, goodTo_succ hg hlt (.inl hl)⟩
          case measure => simp [intOf]; omega
        · by_cases hd : isDig ((s[k]'hlt).toNat : Int)
          · go_wp2_with (first | (go_at_call 22; refine (l00Letter_any _ _).mono ?_; rintro e w' ⟨ha, rfl⟩; obtain rfl := ha.no hl; clear ha) | (go_at_call 23; refine (l00Digit_any _ _).mono ?_; rintro e w' ⟨ha, rfl⟩; obtain rfl := ha.yes hd; clear ha))
            go_round
            case rel => exact ⟨k + 1, by omega, by omega, by go_num, goodTo_succ hg hlt (.inr ⟨by omega, hd⟩)⟩
            case measure => simp [intOf]; omega
          · go_wp2_with (first | (go_at_call 22; refine (l00Letter_any _ _).mono ?_; rintro e w' ⟨ha, rfl⟩; obtain rfl := ha.no hl; clear ha) | (go_at_call 23; refine (l00Digit_any _ _).mono ?_; rintro e w' ⟨ha, rfl⟩; obtain rfl := ha.no hd; clear ha))
            go_ret
            exact ⟨ans_false (not_isName_at hlt hl fun h => hd h.2), rfl⟩
      · go_wp2
        go_ret
        obtain rfl : k = s.size := by omega
        exact ⟨ans_true (isName_of hp (by omega) hg), rfl⟩
  · go_enter Try.func14, Try.ntmps14
    go_wp2_with (go_at_call 22; refine (l00Letter_any _ _).mono ?_; rintro e w' ⟨ha, rfl⟩; obtain rfl := ha.no hL; clear ha)
    go_ret
    exact ⟨ans_false (not_isName_at hp hL fun h => by omega), rfl⟩

theorem specNameOK_any (s : ByteArray) (w : World) (hs : s.size ≤ maxLen) :
    Calls Try.prog 6 #[.string s] w fun e w' => Ans e (isName s) ∧ w' = w := by
  go_enter Try.func6, Try.ntmps6
  go_wp2_with (go_at_call 14; refine (l00Word_any s _ hs).mono ?_; rintro e w' ⟨⟨b, rfl, hb⟩, rfl⟩; have H : Hid (b = true ↔ isName s) := hb; clear hb)
  go_ret
  exact ⟨ans_mk H.out, rfl⟩

theorem width_pos (s : ByteArray) (pos : Nat) (h : pos < s.size) : 1 ≤ (Utf8.decode s pos).2 := by
  by_cases ha : (s[pos]'h).toNat < 128
  · rw [decode_ascii s pos h ha]
    exact Nat.le_refl _
  · exact (decode_high s pos h (by omega)).2
end Go.Proofs.Ythbbeflcmnehpag
