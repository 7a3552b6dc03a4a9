/-
  FnBugs, part 38 of 50 (DigI).
-/
import Derived.Test.YtkmnnmgopnoffaaDoorJ17
import Derived.Test.YtkmnnmgopnoffaaDoorJ04
import Derived.LoopTactic
import Derived.Laws.Runes

/-
  impl.isDigit, impl.readDigits: a number as it is told.
-/
namespace Go.Proofs.YtkmnnmgopnoffaaDoor
open Go.RowKit

set_option maxHeartbeats 1000000 in
theorem isDigit_yes (r : Int) (w : World) (h1 : 48 ≤ r) (h2 : r ≤ 57) : Calls Tryd.prog 174 #[.int .i32 r] w fun e w' => e = .returned (.bool true) ∧ w = w' := by
  go_enter Tryd.func174, Tryd.ntmps174
  go_wp2
  go_ret
  exact ⟨rfl, rfl⟩
set_option maxHeartbeats 1000000 in
theorem isDigit_no (r : Int) (w : World) (h : ¬ (48 ≤ r ∧ r ≤ 57)) : Calls Tryd.prog 174 #[.int .i32 r] w fun e w' => e = .returned (.bool false) ∧ w = w' := by
  by_cases h1 : 48 ≤ r
  · have h2 : ¬ r ≤ 57 := fun h' => h ⟨h1, h'⟩
    clear h
    go_enter Tryd.func174, Tryd.ntmps174
    go_wp2
    go_ret
    exact ⟨rfl, rfl⟩
  · clear h
    go_enter Tryd.func174, Tryd.ntmps174
    go_wp2
    go_ret
    exact ⟨rfl, rfl⟩

/-- What readDigits answers. -/
def DecOut (s : ByteArray) (e : Ending) : Prop := (∃ n : Nat, IsDec s n ∧ e = .returned (.tuple #[.int .i64 n, .bool true])) ∨ (NoDec s ∧ ∃ z : Int, e = .returned (.tuple #[.int .i64 z, .bool false]))

theorem isEmpty_yes' {x : ByteArray} (h : x.size = 0) : x.toList.isEmpty = true := by rw [← decide_eq_emptyBytes]; simpa using h
theorem isEmpty_no' {x : ByteArray} (h : 0 < x.size) : x.toList.isEmpty = false := by
  rw [← decide_eq_emptyBytes]
  simp
  intro e
  rw [e] at h
  simp at h

set_option maxHeartbeats 4000000 in
set_option maxRecDepth 100000 in
theorem readDigits_any (s : ByteArray) (w : World) (hs : s.size ≤ maxLen) : Calls Tryd.prog 153 #[.string s] w fun e w' => DecOut s e ∧ Below w.heap.size w w' := by
  unfold maxLen at hs
  by_cases h0 : s.size = 0
  · have hN : Hid (NoDec s) := noDec_empty h0
    have he := isEmpty_yes' h0
    clear h0
    go_enter Tryd.func153, Tryd.ntmps153
    go_wp2
    go_ret2
    exact ⟨.inr ⟨hN.out, _, rfl⟩, Below.refl _ _⟩
  have hpos : 0 < s.size := by omega
  have he := isEmpty_no' hpos
  clear h0
  by_cases h18 : 18 < s.size
  · have hN : Hid (NoDec s) := noDec_long h18
    go_enter Tryd.func153, Tryd.ntmps153
    go_wp2
    go_ret2
    exact ⟨.inr ⟨hN.out, _, rfl⟩, Below.refl _ _⟩
  by_cases hz : 1 < s.size ∧ bt s 0 = 48
  · have hN : Hid (NoDec s) := noDec_zero hz.1 hz.2
    have hz1 := hz.1
    have hz2 : ((s[0]'hpos).toNat : Int) = 48 := by rw [bt_get s 0 hpos, hz.2]; rfl
    clear hz
    go_enter Tryd.func153, Tryd.ntmps153
    go_wp2
    go_ret2
    exact ⟨.inr ⟨hN.out, _, rfl⟩, Below.refl _ _⟩
  have HZ : Hid (¬ (1 < s.size ∧ bt s 0 = 48)) := hz
  obtain ⟨m, hm⟩ : ∃ m : Nat, m = s.size := ⟨_, rfl⟩
  have HXS : Hid (s.size = m) := hm.symm
  have hm18 : m ≤ 18 := by omega
  have hm1 : 1 ≤ m := by omega
  clear hm
  by_cases h1 : 1 < s.size
  · have hne : (((s[0]'hpos).toNat : Int) == 48) = false := by
      rw [bt_get s 0 hpos]
      simp
      intro e
      exact hz ⟨h1, by omega⟩
    clear hz
    go_enter Tryd.func153, Tryd.ntmps153
    go_wp2
    go_loopw [4] (fun sn wr => ∃ pos : Nat, pos ≤ m ∧ sn = .int .i64 (digVal s pos : Nat) ∧ wr = w.iter s pos ∧ Hid (allDig s pos)) (fun _ wr => m - wr.iterPos w.heap.size)
    case atStart => exact ⟨0, by omega, rfl, rfl, allDig_zero s⟩
    case round =>
      obtain ⟨pos, hpl, rfl, rfl, hA⟩ := hrel
      have bI : Below w.heap.size w (w.iter s pos) := (Below.refl _ _).alloc (Nat.le_refl _) _
      by_cases hp : pos < m
      · have hp' : pos < s.size := by rw [HXS.out]; exact hp
        have hg := bt_get s pos hp'
        have hvs := digVal_small' hA.out (by omega)
        by_cases ha : (s[pos]'hp').toNat < 128
        · have hnx : ∀ ty, (Instr.next (.pointer (some ⟨w.heap.size, 0, none⟩)) true ty).run Tryd.prog (w.iter s pos) = _ := fun ty => run_next_ascii w s pos ty hp' ha
          by_cases hd : 48 ≤ bt s pos ∧ bt s pos ≤ 57
          · have hA2 : Hid (allDig s (pos + 1)) := allDig_succ hA.out hd.1 hd.2
            have hst : digVal s (pos + 1) = 10 * digVal s pos + (bt s pos - 48) := rfl
            have HS : Hid (digVal s (pos + 1) = 10 * digVal s pos + ((s[pos]'hp').toNat - 48)) := by rw [Hid, hst, hg]
            have hb1 : 48 ≤ (s[pos]'hp').toNat := by rw [hg]; exact hd.1
            have hb2 : (s[pos]'hp').toNat ≤ 57 := by rw [hg]; exact hd.2
            clear hg hd hst hA
            generalize digVal s pos = v at hvs HS
            go_wp2_with fail
            refine (isDigit_yes _ _ (by omega) (by omega)).mono ?_
            rintro e w' ⟨rfl, rfl⟩
            clear hnx
            generalize (s[pos]'hp').toNat = b at HS hb1 hb2
            go_wp2
            go_roundw
            case rel => exact ⟨pos + 1, by omega, by rw [HS.out]; go_num, rfl, hA2⟩
            case measure => simp; omega
          · have hN : Hid (NoDec s) := noDec_at hp' hd
            rw [← hg] at hd
            clear hg hA
            go_wp2_with fail
            refine (isDigit_no _ _ (by omega)).mono ?_
            rintro e w' ⟨rfl, rfl⟩
            go_wp2
            go_ret2
            exact ⟨.inr ⟨hN.out, _, rfl⟩, (Below.refl _ _).alloc (Nat.le_refl _) _⟩
        · have hnx : ∀ ty, (Instr.next (.pointer (some ⟨w.heap.size, 0, none⟩)) true ty).run Tryd.prog (w.iter s pos) = _ := fun ty => run_next_any w s pos ty hp'
          have hd := (decode_high s pos hp' (by omega)).1
          have hN : Hid (NoDec s) := noDec_at hp' (by omega)
          clear hg hA
          go_wp2_with fail
          refine (isDigit_no _ _ (by omega)).mono ?_
          rintro e w' ⟨rfl, rfl⟩
          go_wp2
          go_ret2
          exact ⟨.inr ⟨hN.out, _, rfl⟩, (Below.refl _ _).alloc (Nat.le_refl _) _⟩
      · have hp' : ¬ pos < s.size := by rw [HXS.out]; exact hp
        have hnx : ∀ ty, (Instr.next (.pointer (some ⟨w.heap.size, 0, none⟩)) true ty).run Tryd.prog (w.iter s pos) = _ := fun ty => run_next_end w s pos ty hp'
        have hE : pos = s.size := by rw [HXS.out]; omega
        have hY : Hid (IsDec s (digVal s pos)) := ⟨by omega, by omega, HZ.out, by rw [← hE]; exact hA.out, by rw [hE]⟩
        clear hE hA
        generalize digVal s pos = v at hY
        go_wp2
        go_ret2
        exact ⟨.inl ⟨v, hY.out, rfl⟩, (Below.refl _ _).alloc (Nat.le_refl _) _⟩
  · clear hz
    go_enter Tryd.func153, Tryd.ntmps153
    go_wp2
    go_loopw [4] (fun sn wr => ∃ pos : Nat, pos ≤ m ∧ sn = .int .i64 (digVal s pos : Nat) ∧ wr = w.iter s pos ∧ Hid (allDig s pos)) (fun _ wr => m - wr.iterPos w.heap.size)
    case atStart => exact ⟨0, by omega, rfl, rfl, allDig_zero s⟩
    case round =>
      obtain ⟨pos, hpl, rfl, rfl, hA⟩ := hrel
      have bI : Below w.heap.size w (w.iter s pos) := (Below.refl _ _).alloc (Nat.le_refl _) _
      by_cases hp : pos < m
      · have hp' : pos < s.size := by rw [HXS.out]; exact hp
        have hg := bt_get s pos hp'
        have hvs := digVal_small' hA.out (by omega)
        by_cases ha : (s[pos]'hp').toNat < 128
        · have hnx : ∀ ty, (Instr.next (.pointer (some ⟨w.heap.size, 0, none⟩)) true ty).run Tryd.prog (w.iter s pos) = _ := fun ty => run_next_ascii w s pos ty hp' ha
          by_cases hd : 48 ≤ bt s pos ∧ bt s pos ≤ 57
          · have hA2 : Hid (allDig s (pos + 1)) := allDig_succ hA.out hd.1 hd.2
            have hst : digVal s (pos + 1) = 10 * digVal s pos + (bt s pos - 48) := rfl
            have HS : Hid (digVal s (pos + 1) = 10 * digVal s pos + ((s[pos]'hp').toNat - 48)) := by rw [Hid, hst, hg]
            have hb1 : 48 ≤ (s[pos]'hp').toNat := by rw [hg]; exact hd.1
            have hb2 : (s[pos]'hp').toNat ≤ 57 := by rw [hg]; exact hd.2
            clear hg hd hst hA
            generalize digVal s pos = v at hvs HS
            go_wp2_with fail
            refine (isDigit_yes _ _ (by omega) (by omega)).mono ?_
            rintro e w' ⟨rfl, rfl⟩
            clear hnx
            generalize (s[pos]'hp').toNat = b at HS hb1 hb2
            go_wp2
            go_roundw
            case rel => exact ⟨pos + 1, by omega, by rw [HS.out]; go_num, rfl, hA2⟩
            case measure => simp; omega
          · have hN : Hid (NoDec s) := noDec_at hp' hd
            rw [← hg] at hd
            clear hg hA
            go_wp2_with fail
            refine (isDigit_no _ _ (by omega)).mono ?_
            rintro e w' ⟨rfl, rfl⟩
            go_wp2
            go_ret2
            exact ⟨.inr ⟨hN.out, _, rfl⟩, (Below.refl _ _).alloc (Nat.le_refl _) _⟩
        · have hnx : ∀ ty, (Instr.next (.pointer (some ⟨w.heap.size, 0, none⟩)) true ty).run Tryd.prog (w.iter s pos) = _ := fun ty => run_next_any w s pos ty hp'
          have hd := (decode_high s pos hp' (by omega)).1
          have hN : Hid (NoDec s) := noDec_at hp' (by omega)
          clear hg hA
          go_wp2_with fail
          refine (isDigit_no _ _ (by omega)).mono ?_
          rintro e w' ⟨rfl, rfl⟩
          go_wp2
          go_ret2
          exact ⟨.inr ⟨hN.out, _, rfl⟩, (Below.refl _ _).alloc (Nat.le_refl _) _⟩
      · have hp' : ¬ pos < s.size := by rw [HXS.out]; exact hp
        have hnx : ∀ ty, (Instr.next (.pointer (some ⟨w.heap.size, 0, none⟩)) true ty).run Tryd.prog (w.iter s pos) = _ := fun ty => run_next_end w s pos ty hp'
        have hE : pos = s.size := by rw [HXS.out]; omega
        have hY : Hid (IsDec s (digVal s pos)) := ⟨by omega, by omega, HZ.out, by rw [← hE]; exact hA.out, by rw [hE]⟩
        clear hE hA
        generalize digVal s pos = v at hY
        go_wp2
        go_ret2
        exact ⟨.inl ⟨v, hY.out, rfl⟩, (Below.refl _ _).alloc (Nat.le_refl _) _⟩
end Go.Proofs.YtkmnnmgopnoffaaDoor
