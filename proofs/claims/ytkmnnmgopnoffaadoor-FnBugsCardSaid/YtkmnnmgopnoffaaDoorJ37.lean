/-
  FnBugs, part 37 of 50 (DigS).
-/
import Derived.Test.YtkmnnmgopnoffaaDoorJ17
import Derived.Test.YtkmnnmgopnoffaaDoorJ09
import Derived.Test.YtkmnnmgopnoffaaDoorJ14
import Derived.LoopTactic

/-
  spec.l00Number, spec.l00Digits, spec.l02Number: a number as it is told.
-/
namespace Go.Proofs.YtkmnnmgopnoffaaDoor
open Go.RowKit

/-- What l00Number answers: where the text is no number as it is told, a number below nought at most. -/
def NumOut (s : ByteArray) (e : Ending) : Prop := (∃ n : Nat, IsDec s n ∧ e = .returned (.tuple #[.int .i64 n, .bool true])) ∨ (NoDec s ∧ ∃ (z : Int) (b : Bool), e = .returned (.tuple #[.int .i64 z, .bool b]) ∧ (b = true → z < 0 ∧ -1000000000000000000 < z))

set_option maxHeartbeats 8000000 in
set_option maxRecDepth 100000 in
theorem l00Number_any (s : ByteArray) (w : World) (hs : s.size ≤ maxLen) : Calls Tryd.prog 160 #[.string s] w fun e w' => NumOut s e ∧ w = w' := by
  unfold maxLen at hs
  by_cases h0 : s.size = 0
  · have hN : Hid (NoDec s) := noDec_empty h0
    go_enter Tryd.func160, Tryd.ntmps160
    go_wp2
    go_ret2
    exact ⟨.inr ⟨hN.out, _, _, rfl, by simp⟩, rfl⟩
  have hpos : 0 < s.size := by omega
  have hpos' : (0 : Int) < (s.size : Int) := by omega
  by_cases hmin : bt s 0 = 45
  · have HN : Hid (NoDec s) := noDec_at hpos (by omega)
    have hN := HN
    have hq : (((s[0]'hpos).toNat : Int)) = 45 := by rw [bt_get s 0 hpos, hmin]; rfl
    obtain ⟨x, hx⟩ : ∃ x, x = s.extract 1 s.size := ⟨_, rfl⟩
    have hxs : x.size = s.size - 1 := by rw [hx]; simp
    have hx0 := bt_cut s 1 0
    rw [← hx] at hx0
    have HX : Hid (x = s.extract 1 s.size) := hx
    clear hmin
    have hsl : ∀ W, (Instr.slice 9 (.string s) (some (.int .i64 1)) none none).run Tryd.prog W = .ok (.string x) W := fun W => by
      rw [hx]
      have h1 : (1 : Int) ≤ (s.size : Int) := by omega
      go_simp
    clear hx
    by_cases hl0 : x.size = 0
    · have he0 : ((x.size : Int) == 0) = true := by rw [hl0]; rfl
      go_enter Tryd.func160, Tryd.ntmps160
      go_wp2
      go_ret2
      exact ⟨.inr ⟨hN.out, _, _, rfl, by simp⟩, rfl⟩
    have hx00 : ((x.size : Int) == 0) = false := beq_eq_false_iff_ne.2 (by omega)
    by_cases hl18 : 18 < x.size
    · have hl18' : decide ((18 : Int) < (x.size : Int)) = true := by simp; omega
      go_enter Tryd.func160, Tryd.ntmps160
      go_wp2
      go_ret2
      exact ⟨.inr ⟨hN.out, _, _, rfl, by simp⟩, rfl⟩
    have hx18 : decide ((18 : Int) < (x.size : Int)) = false := by simp; omega
    have hxp : 0 < x.size := by omega
    by_cases hz : bt x 0 = 48
    · have hz2 : ((x[0]'hxp).toNat : Int) = 48 := by rw [bt_get x 0 hxp, hz]; rfl
      clear hx0 hxs
      by_cases h1x : (1 : Int) < (x.size : Int)
      · go_enter Tryd.func160, Tryd.ntmps160
        go_wp2
        go_ret2
        exact ⟨.inr ⟨hN.out, _, _, rfl, by simp⟩, rfl⟩
      · go_enter Tryd.func160, Tryd.ntmps160
        go_wp2
        go_ret2
        exact ⟨.inr ⟨hN.out, _, _, rfl, by simp⟩, rfl⟩
    have hne : (((x[0]'hxp).toNat : Int) == 48) = false := by rw [bt_get x 0 hxp]; exact beq_eq_false_iff_ne.2 (by omega)
    have HZ : Hid (bt x 0 ≠ 48) := hz
    obtain ⟨m, hm⟩ : ∃ m : Nat, m = x.size := ⟨_, rfl⟩
    have HXS : Hid (x.size = m) := hm.symm
    have hm18 : m ≤ 18 := by omega
    have hm1 : 1 ≤ m := by omega
    clear hm hz hxs hN hx0
    go_enter Tryd.func160, Tryd.ntmps160
    go_wp2
    go_loop [5, 6] (fun sn si => ∃ k : Nat, k ≤ m ∧ sn = .int .i64 (digVal x k : Nat) ∧ si = .int .i64 k ∧ Hid (allDig x k)) (fun _ si => m - (intOf si).toNat)
    case atStart => exact ⟨0, by omega, rfl, rfl, allDig_zero x⟩
    case round =>
      obtain ⟨k, hkl, rfl, rfl, hA⟩ := hrel
      by_cases hp : k < m
      · have hp' : k < x.size := by rw [HXS.out]; exact hp
        have hg := bt_get x k hp'
        have hvs := digVal_small' hA.out (by omega)
        by_cases hd : 48 ≤ bt x k ∧ bt x k ≤ 57
        · have hA2 : Hid (allDig x (k + 1)) := allDig_succ hA.out hd.1 hd.2
          have hst : digVal x (k + 1) = 10 * digVal x k + (bt x k - 48) := rfl
          have HS : Hid (digVal x (k + 1) = 10 * digVal x k + ((x[k]'hp').toNat - 48)) := by rw [Hid, hst, hg]
          have hb1 : 48 ≤ (x[k]'hp').toNat := by rw [hg]; exact hd.1
          have hb2 : (x[k]'hp').toNat ≤ 57 := by rw [hg]; exact hd.2
          have hc1 : ¬ ((x[k]'hp').toNat : Int) < 48 := by omega
          have hc2 : ¬ (57 : Int) < ((x[k]'hp').toNat : Int) := by omega
          clear hg hd hst hA
          generalize digVal x k = v at hvs HS
          go_wp2
          go_round
          case rel => exact ⟨k + 1, by omega, by rw [HS.out]; go_num, by go_num, hA2⟩
          case measure => simp [intOf]; omega
        · have hN : Hid (NoDec s) := HN
          rw [← hg] at hd
          clear hg hA
          by_cases hlo : ((x[k]'hp').toNat : Int) < 48
          · go_wp2
            go_ret2
            exact ⟨.inr ⟨hN.out, _, _, rfl, by simp⟩, rfl⟩
          · have hhi : (57 : Int) < ((x[k]'hp').toNat : Int) := by omega
            go_wp2
            go_ret2
            exact ⟨.inr ⟨hN.out, _, _, rfl, by simp⟩, rfl⟩
      · have hp' : ¬ k < x.size := by rw [HXS.out]; exact hp
        have hE : k = x.size := by rw [HXS.out]; omega
        have hv1 := digVal_pos (s := x) (k := k) (by omega) hA.out HZ.out
        have hvs := digVal_small hA.out (by omega)
        clear hE hA
        generalize digVal x k = v at hv1 hvs
        go_wp2
        go_ret2
        exact ⟨.inr ⟨HN.out, _, _, rfl, fun _ => by omega⟩, rfl⟩
  · have hq : (((s[0]'hpos).toNat : Int) == 45) = false := by rw [bt_get s 0 hpos]; simp; omega
    by_cases h18 : 18 < s.size
    · have hN : Hid (NoDec s) := noDec_long h18
      go_enter Tryd.func160, Tryd.ntmps160
      go_wp2
      go_ret2
      exact ⟨.inr ⟨hN.out, _, _, rfl, by simp⟩, rfl⟩
    by_cases hz : 1 < s.size ∧ bt s 0 = 48
    · have hN : Hid (NoDec s) := noDec_zero hz.1 hz.2
      have hz1 := hz.1
      have hz2 : ((s[0]'hpos).toNat : Int) = 48 := by rw [bt_get s 0 hpos, hz.2]; rfl
      clear hz
      go_enter Tryd.func160, Tryd.ntmps160
      go_wp2
      go_ret2
      exact ⟨.inr ⟨hN.out, _, _, rfl, by simp⟩, rfl⟩
    have HZ : Hid (¬ (1 < s.size ∧ bt s 0 = 48)) := hz
    obtain ⟨m, hm⟩ : ∃ m : Nat, m = s.size := ⟨_, rfl⟩
    have HXS : Hid (s.size = m) := hm.symm
    have hm18 : m ≤ 18 := by omega
    have hm1 : 1 ≤ m := by omega
    have hs0 : ((s.size : Int) == 0) = false := beq_eq_false_iff_ne.2 (by omega)
    have hs18 : decide ((18 : Int) < (s.size : Int)) = false := by simp; omega
    clear hm hmin
    by_cases h1 : bt s 0 = 48
    · have hz2 : ((s[0]'hpos).toNat : Int) = 48 := by rw [bt_get s 0 hpos, h1]; rfl
      have hs1 : decide ((1 : Int) < (s.size : Int)) = false := by have : ¬ 1 < s.size := fun h => hz ⟨h, h1⟩; simp; omega
      clear hz h1
      go_enter Tryd.func160, Tryd.ntmps160
      go_wp2
      go_loop [5, 6] (fun sn si => ∃ k : Nat, k ≤ m ∧ sn = .int .i64 (digVal s k : Nat) ∧ si = .int .i64 k ∧ Hid (allDig s k)) (fun _ si => m - (intOf si).toNat)
      case atStart => exact ⟨0, by omega, rfl, rfl, allDig_zero s⟩
      case round =>
        obtain ⟨k, hkl, rfl, rfl, hA⟩ := hrel
        by_cases hp : k < m
        · have hp' : k < s.size := by rw [HXS.out]; exact hp
          have hg := bt_get s k hp'
          have hvs := digVal_small' hA.out (by omega)
          by_cases hd : 48 ≤ bt s k ∧ bt s k ≤ 57
          · have hA2 : Hid (allDig s (k + 1)) := allDig_succ hA.out hd.1 hd.2
            have hst : digVal s (k + 1) = 10 * digVal s k + (bt s k - 48) := rfl
            have HS : Hid (digVal s (k + 1) = 10 * digVal s k + ((s[k]'hp').toNat - 48)) := by rw [Hid, hst, hg]
            have hb1 : 48 ≤ (s[k]'hp').toNat := by rw [hg]; exact hd.1
            have hb2 : (s[k]'hp').toNat ≤ 57 := by rw [hg]; exact hd.2
            have hc1 : ¬ ((s[k]'hp').toNat : Int) < 48 := by omega
            have hc2 : ¬ (57 : Int) < ((s[k]'hp').toNat : Int) := by omega
            clear hg hd hst hA
            generalize digVal s k = v at hvs HS
            go_wp2
            go_round
            case rel => exact ⟨k + 1, by omega, by rw [HS.out]; go_num, by go_num, hA2⟩
            case measure => simp [intOf]; omega
          · have hN : Hid (NoDec s) := noDec_at hp' hd
            rw [← hg] at hd
            clear hg hA
            by_cases hlo : ((s[k]'hp').toNat : Int) < 48
            · go_wp2
              go_ret2
              exact ⟨.inr ⟨hN.out, _, _, rfl, by simp⟩, rfl⟩
            · have hhi : (57 : Int) < ((s[k]'hp').toNat : Int) := by omega
              go_wp2
              go_ret2
              exact ⟨.inr ⟨hN.out, _, _, rfl, by simp⟩, rfl⟩
        · have hp' : ¬ k < s.size := by rw [HXS.out]; exact hp
          have hE : k = s.size := by rw [HXS.out]; omega
          have hY : Hid (IsDec s (digVal s k)) := ⟨by omega, by omega, HZ.out, by rw [← hE]; exact hA.out, by rw [hE]⟩
          have hvs := digVal_small hA.out (by omega)
          clear hE hA
          generalize digVal s k = v at hY hvs
          go_wp2
          go_ret2
          exact ⟨.inl ⟨v, hY.out, by go_num⟩, rfl⟩
    · have hne : (((s[0]'hpos).toNat : Int) == 48) = false := by rw [bt_get s 0 hpos]; simp; omega
      clear hz h1
      go_enter Tryd.func160, Tryd.ntmps160
      go_wp2
      go_loop [5, 6] (fun sn si => ∃ k : Nat, k ≤ m ∧ sn = .int .i64 (digVal s k : Nat) ∧ si = .int .i64 k ∧ Hid (allDig s k)) (fun _ si => m - (intOf si).toNat)
      case atStart => exact ⟨0, by omega, rfl, rfl, allDig_zero s⟩
      case round =>
        obtain ⟨k, hkl, rfl, rfl, hA⟩ := hrel
        by_cases hp : k < m
        · have hp' : k < s.size := by rw [HXS.out]; exact hp
          have hg := bt_get s k hp'
          have hvs := digVal_small' hA.out (by omega)
          by_cases hd : 48 ≤ bt s k ∧ bt s k ≤ 57
          · have hA2 : Hid (allDig s (k + 1)) := allDig_succ hA.out hd.1 hd.2
            have hst : digVal s (k + 1) = 10 * digVal s k + (bt s k - 48) := rfl
            have HS : Hid (digVal s (k + 1) = 10 * digVal s k + ((s[k]'hp').toNat - 48)) := by rw [Hid, hst, hg]
            have hb1 : 48 ≤ (s[k]'hp').toNat := by rw [hg]; exact hd.1
            have hb2 : (s[k]'hp').toNat ≤ 57 := by rw [hg]; exact hd.2
            have hc1 : ¬ ((s[k]'hp').toNat : Int) < 48 := by omega
            have hc2 : ¬ (57 : Int) < ((s[k]'hp').toNat : Int) := by omega
            clear hg hd hst hA
            generalize digVal s k = v at hvs HS
            go_wp2
            go_round
            case rel => exact ⟨k + 1, by omega, by rw [HS.out]; go_num, by go_num, hA2⟩
            case measure => simp [intOf]; omega
          · have hN : Hid (NoDec s) := noDec_at hp' hd
            rw [← hg] at hd
            clear hg hA
            by_cases hlo : ((s[k]'hp').toNat : Int) < 48
            · go_wp2
              go_ret2
              exact ⟨.inr ⟨hN.out, _, _, rfl, by simp⟩, rfl⟩
            · have hhi : (57 : Int) < ((s[k]'hp').toNat : Int) := by omega
              go_wp2
              go_ret2
              exact ⟨.inr ⟨hN.out, _, _, rfl, by simp⟩, rfl⟩
        · have hp' : ¬ k < s.size := by rw [HXS.out]; exact hp
          have hE : k = s.size := by rw [HXS.out]; omega
          have hY : Hid (IsDec s (digVal s k)) := ⟨by omega, by omega, HZ.out, by rw [← hE]; exact hA.out, by rw [hE]⟩
          have hvs := digVal_small hA.out (by omega)
          clear hE hA
          generalize digVal s k = v at hY hvs
          go_wp2
          go_ret2
          exact ⟨.inl ⟨v, hY.out, by go_num⟩, rfl⟩
end Go.Proofs.YtkmnnmgopnoffaaDoor
