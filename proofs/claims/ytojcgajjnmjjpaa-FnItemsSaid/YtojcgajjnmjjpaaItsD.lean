
/-
  The items that the specification draws: at most five.
-/
import Derived.Test.YtojcgajjnmjjpaaDrawn2
import Derived.Test.YtojcgajjnmjjpaaItmI
namespace Go.Proofs.Ytojcgajjnmjjpaa
open Go.RowKit
set_option linter.unusedVariables false

set_option maxHeartbeats 2000000 in
set_option maxRecDepth 100000 in
theorem items_any (p T : Nat) (a : Option Addr) (n cap : Nat) (w : World) (hS : Src w p (.slice a n cap) T) (hC : Code w p a n cap) (hT : T ≤ 700000) :
    Calls Try.prog 23 #[.pointer (some ⟨p, 0, none⟩)] w fun e w' => (∃ (v : Value) (zs : List Int), zs.length ≤ 5 ∧ (∀ z ∈ zs, itOk z = true) ∧ e = .returned v ∧ w'.ownsRow w.heap.size 3 1 v zs.length (zs.map (Value.int .i64))) ∧ Src w' p (.slice a n cap) (T + 100) ∧ Went p w w' := by
  obtain ⟨i0, hi, hz0, hz1, hz2⟩ := info_parts info_int
  have hp := Nat.le_of_lt hS.lt
  have hpl := hS.lt
  have hSB := hS.alloc (.cells #[] 3)
  have hCB := hC.went (World.grownBy_alloc w (.cells #[] 3) (some p)) hp
  have hO : (w.alloc (.cells #[] 3)).ownsRow w.heap.size 3 1 (.slice (some ⟨w.heap.size, 0, none⟩) 0 0) 0 [] := World.ownsRow_lit w #[] 0 (Nat.le_refl _) (by unfold maxLen; omega) rfl
  go_enter Try.func23, Try.ntmps23
  go_wp2_with fail
  refine (next_any p T a n cap 6 _ hSB hCB (by omega) (by omega)).mono ?_
  rintro e w1 ⟨⟨v1, hv1, rfl⟩, hS1, hW1⟩
  have hv8 : v1 < 6 := by omega
  have hC1 := hCB.went hW1 (Nat.le_of_lt hSB.lt)
  have hO1 := owns_went hO hW1 hpl
  have hWW : Went p w w1 := (World.grownBy_alloc w (.cells #[] 3) (some p) : Went p w _).trans hW1
  clear hO hW1 hSB hCB hv1
  go_wp2
  go_loopw [3, 4] (fun so si wr => ∃ (j l : Nat) (zs : List Int), j + l = v1 ∧ zs.length = l ∧ (∀ z ∈ zs, itOk z = true) ∧ si = .int .i64 j ∧ wr.ownsRow w.heap.size 3 1 so l (zs.map (Value.int .i64)) ∧ Src wr p (.slice a n cap) (T + 3 + 6 * l) ∧ Code wr p a n cap ∧ Went p w wr) (fun _ si _ => (Go.RowKit.intOf si).toNat)
  case atStart => exact ⟨v1, 0, [], by omega, rfl, by simp, rfl, hO1, hS1, hC1, hWW⟩
  case round =>
    obtain ⟨j, l, zs, hjl, hzl, hz, rfl, hr, hSr, hCr, hW⟩ := hrel
    have HZ : Hid ((∀ z ∈ zs, itOk z = true) ∧ zs.length = l ∧ j + l = v1) := ⟨hz, hzl, hjl⟩
    have hl7 : l ≤ 5 := by omega
    have hj7 : j ≤ 5 := by omega
    clear hz
    by_cases hlt : 0 < j
    · go_wp2_with fail
      refine (next_any p (T + 3 + 6 * l) a n cap 3 _ hSr hCr (by omega) (by omega)).mono ?_
      rintro e wa ⟨⟨ka, hka, rfl⟩, hSa, hWa⟩
      have hCa := hCr.went hWa (Nat.le_of_lt hSr.lt)
      have hka' : ka < 3 := by omega
      go_wp2_with fail
      refine (next_any p (T + 3 + 6 * l + 3) a n cap 5 _ hSa hCa (by omega) (by omega)).mono ?_
      rintro e w2 ⟨⟨kb, hkb, rfl⟩, hS2, hWb⟩
      have hkb' : kb < 5 := by omega
      have hC2 := hCa.went hWb (Nat.le_of_lt hSa.lt)
      have hW2 := hWa.trans hWb
      have hr1 := owns_went hr hW2 hpl
      clear hSa hWa hWb hCa hka hkb
      have kIt := l08Item_is (ka : Int) (kb : Int) w2 (inB8_true.2 (by omega)) (inB8_true.2 (by omega))
      go_wp2_with fail
      refine kIt.mono ?_
      rintro e w9 ⟨rfl, rfl⟩
      have hz : itOk (8 * (ka : Int) + (kb : Int)) = true := by simp only [itOk, decide_eq_true_eq]; omega
      clear kIt
      generalize 8 * (ka : Int) + (kb : Int) = z at hz ⊢
      clear hka' hkb'
      have hWW2 := hW.trans hW2
      have hsz := hWW2.size
      clear hr hSr hCr hW hW2 hjl hzl
      go_wp2_with (at_builtin; refine wpList_append_own _ rfl _ _ 23 rfl w.heap.size 3 i0 (.int .i64 0) 1 8 Try.underlying23 hi hz0 hz1 hz2 rfl (by decide) _ _ _ rfl (hr1.alloc _) ⟨w2.heap.size, 0, none⟩ 1 1 [.int .i64 (z : Int)] rfl rfl (cell_one_new _ _ _) (one_i64' _) ?c3 ?c4 ?c5 ?_)
      case c3 => unfold maxLen; omega
      case c4 => omega
      case c5 => simp; omega
      intro v' w3 hown' hgrow _
      have R : w3.ownsRow w.heap.size 3 1 v' (l + 1) ((zs ++ [(z : Int)]).map (Value.int .i64)) := by simpa using hown'
      have hS3 : Src w3 p (.slice a n cap) (T + 3 + 6 * (l + 1)) := ((hS2.alloc _).grown hgrow (fun k hk => by have := (hr1.lt k hk).1; omega)).mono (by omega)
      have hW3 : Went p w w3 := (hWW2.alloc _).grown hgrow (fun k hk => (hr1.lt k hk).1)
      have hC3 : Code w3 p a n cap := hC2.below (((Below.refl p w2).alloc (Nat.le_of_lt hS2.lt) _).grown hgrow (by simp; have := hS2.lt; omega) (fun k hk => by have := (hr1.lt k hk).1; omega))
      clear hown' hgrow hr1 hS2 hC2 hWW2
      go_wp2
      go_roundw
      case rel =>
        refine ⟨j - 1, l + 1, zs ++ [(z : Int)], by have := HZ.out.2.2; omega, by simp [HZ.out.2.1], ?_, by go_num, R, hS3, hC3, hW3⟩
        intro y hy
        rcases List.mem_append.1 hy with h | h
        · exact HZ.out.1 y h
        · simp at h; rw [h]; exact hz
      case measure => simp [Go.RowKit.intOf]; omega
    · obtain rfl : j = 0 := by omega
      rw [← hzl] at hr
      have HR : Hid (wr.ownsRow w.heap.size 3 1 u3 zs.length (zs.map (Value.int .i64))) := hr
      have hS' : Src wr p (.slice a n cap) (T + 100) := hSr.mono (by omega)
      clear hCr hr hSr hjl hzl
      go_wp2
      go_ret
      exact ⟨⟨_, zs, by rw [HZ.out.2.1]; exact hl7, HZ.out.1, rfl, HR.out⟩, hS', hW⟩

set_option maxHeartbeats 1000000 in
theorem itemsDrawn_any (a : Option Addr) (n cap : Nat) (zs : List Int) (w : World) (hI : IsRow .u8 w a n cap zs) (hn : n ≤ 1048576) :
    Calls Try.prog 8 #[.slice a n cap] w fun e w' => (∃ (v : Value) (ys : List Int), ys.length ≤ 5 ∧ (∀ z ∈ ys, itOk z = true) ∧ e = .returned v ∧ w'.ownsRow w.heap.size 3 1 v ys.length (ys.map (Value.int .i64))) ∧ Below w.heap.size w w' := by
  have hC := code_of hI hn
  go_enter Try.func8, Try.ntmps8
  go_wp2_with fail
  refine (l00Source_any a n cap _ hn).mono ?_
  rintro e w1 ⟨rfl, hS1, hb1⟩
  have hC1 := hC.below hb1
  go_wp2_with fail
  refine (items_any _ 0 a n cap _ hS1 hC1 (by omega)).mono ?_
  rintro e w2 ⟨⟨v, ys, hy1, hy2, rfl, ho⟩, hS2, hW2⟩
  have hb2 := hW2.below (Nat.le_of_lt hS1.lt)
  have ho' : w2.ownsRow w.heap.size 3 1 v ys.length (ys.map (Value.int .i64)) := by
    refine ⟨ho.1, ?_⟩
    rcases ho.2 with h | ⟨g, cap', cur, e1, e2, e3⟩
    · exact .inl h
    · exact .inr ⟨g, cap', cur, e1, by have := hS1.lt; omega, e3⟩
  have HO : Hid (w2.ownsRow w.heap.size 3 1 v ys.length (ys.map (Value.int .i64))) := ho'
  clear ho ho' hS2 hW2
  go_wp2
  go_ret
  exact ⟨⟨v, ys, hy1, hy2, rfl, HO.out⟩, hb1.trans hb2⟩
end Go.Proofs.Ytojcgajjnmjjpaa
