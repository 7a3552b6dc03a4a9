
/-
  What the specification draws: a text of n letters, a list of at most seven numbers in their bounds, and the law's own choice 'at'.
-/
import Derived.Test.YtkfaodbkgahgbaaSrc2
import Derived.Test.YtkfaodbkgahgbaaNum
namespace Go.Proofs.Ytkfaodbkgahgbaa
open Go.RowKit

theorem owns_went {p base e size n : Nat} {v : Value} {xs : List Value} {w w' : World} (h : w.ownsRow base e size v n xs) (hw : Went p w w') (hp : p < base) : w'.ownsRow base e size v n xs :=
  h.kept hw (by
    rcases hv : v.ownBlock with _ | g
    · exact .inl rfl
    · right
      have := (h.lt g hv).1
      intro e
      cases e
      omega)

set_option maxHeartbeats 2000000 in
set_option maxRecDepth 100000 in
/-- some: a text of n letters. -/
theorem some_any (p T : Nat) (a : Option Addr) (n cap m : Nat) (w : World) (hS : Src w p (.slice a n cap) T) (hC : Code w p a n cap) (hT : T + 3 * m ≤ 800000) (hm : m ≤ 100000) :
    Calls Try.prog 28 #[.pointer (some ⟨p, 0, none⟩), .int .i64 m] w fun e w' => (∃ zs : List Int, zs.length = m ∧ (∀ z ∈ zs, 97 ≤ z ∧ z ≤ 122) ∧ e = .returned (.string (strOfNums zs))) ∧ Src w' p (.slice a n cap) (T + 3 * m) ∧ Went p w w' := by
  obtain ⟨i0, hi, hz0, hz1, hz2⟩ := info_parts info_u8
  have hp := Nat.le_of_lt hS.lt
  have hpl := hS.lt
  go_enter Try.func28, Try.ntmps28
  go_wp2
  go_loopw [5, 6] (fun so si wr => ∃ (j : Nat) (zs : List Int), j ≤ m ∧ zs.length = j ∧ (∀ z ∈ zs, 97 ≤ z ∧ z ≤ 122) ∧ si = .int .i64 j ∧ wr.ownsRow w.heap.size 5 1 so j (u8s zs) ∧ Src wr p (.slice a n cap) (T + 3 * j) ∧ Code wr p a n cap ∧ Went p w wr) (fun _ si _ => m - (intOf si).toNat)
  case atStart => exact ⟨0, [], by omega, rfl, by simp, rfl, World.ownsRow_lit w #[] 0 (Nat.le_refl _) (by unfold maxLen; omega) rfl, hS.alloc _, hC.went (World.grownBy_alloc w _ _) hp, World.grownBy_alloc w _ _⟩
  case round =>
    obtain ⟨j, zs, hj, hzl, hz, rfl, hr, hSr, hCr, hW⟩ := hrel
    have HZ : Hid ((∀ z ∈ zs, 97 ≤ z ∧ z ≤ 122) ∧ zs.length = j) := ⟨hz, hzl⟩
    clear hz
    by_cases hlt : j < m
    · go_wp2_with fail
      refine (next_any p (T + 3 * j) a n cap 26 _ hSr hCr (by omega) (by omega)).mono ?_
      rintro e w1 ⟨⟨v, hv, rfl⟩, hS1, hW1⟩
      have hv26 : v < 26 := by omega
      have hr1 := owns_went hr hW1 hpl
      have hC1 := hCr.went hW1 (Nat.le_of_lt hSr.lt)
      have hWW := hW.trans hW1
      have hsz := hWW.size
      clear hr hSr hCr hW hW1 hv
      go_wp2_with (at_builtin; refine wpList_append_own _ rfl _ _ 22 rfl w.heap.size 5 i0 (.int .u8 0) 1 1 Try.underlying22 hi hz0 hz1 hz2 rfl (by decide) _ _ _ rfl (hr1.alloc _) ⟨w1.heap.size, 0, none⟩ 1 1 [.int .u8 (97 + (v : Int))] rfl rfl (cell_one_new _ _ _) (one_u8 _) ?c3 ?c4 ?c5 ?_)
      case c3 => unfold maxLen; omega
      case c4 => omega
      case c5 => simp; omega
      intro v' w2 hown' hgrow _
      have R : w2.ownsRow w.heap.size 5 1 v' (j + 1) (u8s (zs ++ [97 + (v : Int)])) := by simpa using hown'
      have hS2 : Src w2 p (.slice a n cap) (T + 3 * (j + 1)) := ((hS1.alloc _).grown hgrow (fun k hk => by have := (hr1.lt k hk).1; omega)).mono (by omega)
      have hW2 : Went p w w2 := (hWW.alloc _).grown hgrow (fun k hk => (hr1.lt k hk).1)
      have hC2 : Code w2 p a n cap := hC1.below (((Below.refl p w1).alloc (Nat.le_of_lt hS1.lt) _).grown hgrow (by simp; have := hS1.lt; omega) (fun k hk => by have := (hr1.lt k hk).1; omega))
      clear hown' hgrow hr1 hS1 hC1 hWW hzl
      go_wp2
      go_roundw
      case rel =>
        refine ⟨j + 1, zs ++ [97 + (v : Int)], by omega, by simp [HZ.out.2], ?_, by go_num, R, hS2, hC2, hW2⟩
        intro z hz
        rcases List.mem_append.1 hz with h | h
        · exact HZ.out.1 z h
        · simp at h; omega
      case measure => simp [intOf]; omega
    · obtain rfl : j = m := by omega
      have hcv := conv_owned hr
      clear hr hCr hzl
      go_wp2
      go_ret
      exact ⟨⟨zs, HZ.out.2, HZ.out.1, rfl⟩, hSr, hW⟩

set_option maxHeartbeats 1000000 in
/-- TextOf: a text of m letters. -/
theorem textOf_any (a : Option Addr) (n cap m : Nat) (zs : List Int) (w : World) (hI : IsRow .u8 w a n cap zs) (hn : n ≤ 1048576) (hm : m ≤ 100000) :
    Calls Try.prog 10 #[.slice a n cap, .int .i64 m] w fun e w' => (∃ ys : List Int, ys.length = m ∧ (∀ z ∈ ys, 97 ≤ z ∧ z ≤ 122) ∧ e = .returned (.string (strOfNums ys))) ∧ Below w.heap.size w w' := by
  have hC := code_of hI hn
  go_enter Try.func10, Try.ntmps10
  go_wp2_with fail
  refine (l00Source_any a n cap _ hn).mono ?_
  rintro e w1 ⟨rfl, hS1, hb1⟩
  have hC1 := hC.below hb1
  go_wp2_with fail
  refine (some_any _ 0 a n cap m _ hS1 hC1 (by omega) hm).mono ?_
  rintro e w2 ⟨⟨ys, hy1, hy2, rfl⟩, hS2, hW2⟩
  have hb2 := hW2.below (Nat.le_of_lt hS1.lt)
  go_wp2
  go_ret
  exact ⟨⟨ys, hy1, hy2, rfl⟩, hb1.trans hb2⟩
end Go.Proofs.Ytkfaodbkgahgbaa
