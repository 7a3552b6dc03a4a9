/-
  The numbers that the specification draws: at most seven, each from 0 to 999999999; and the law's own choice 'at': a number below n.
-/
import Derived.Test.YthbbeflcmnehpaaDoorDrawn
namespace Go.Proofs.YthbbeflcmnehpaaDoor
open Go.RowKit

set_option maxHeartbeats 4000000 in
set_option maxRecDepth 100000 in
theorem number_any (p T : Nat) (a : Option Addr) (n cap : Nat) (w : World) (hS : Src w p (.slice a n cap) T) (hC : Code w p a n cap) (hT : T ≤ 800000) :
    Calls Tryd.prog 35 #[.pointer (some ⟨p, 0, none⟩)] w fun e w' => (∃ z : Nat, z ≤ 999999999 ∧ e = .returned (.int .i64 z)) ∧ Src w' p (.slice a n cap) (T + 9) ∧ Went p w w' := by
  have hp := Nat.le_of_lt hS.lt
  go_enter Tryd.func35, Tryd.ntmps35
  go_wp2_with fail
  refine (next_any p T a n cap 300 _ hS hC (by omega) (by omega)).mono ?_
  rintro e w1 ⟨⟨v1, hv1, rfl⟩, hS1, hW1⟩
  have hv1' : v1 < 300 := by omega
  have hC1 := hC.went hW1 hp
  have hSB := hS1.alloc (.cells #[.int .i64 v1, .int .i64 127, .int .i64 128, .int .i64 16384, .int .i64 999999999] 3)
  have hCB := hC1.went (World.grownBy_alloc w1 (.cells #[.int .i64 v1, .int .i64 127, .int .i64 128, .int .i64 16384, .int .i64 999999999] 3) (some p)) (Nat.le_of_lt hS1.lt)
  have hWB := hW1.alloc (.cells #[.int .i64 v1, .int .i64 127, .int .i64 128, .int .i64 16384, .int .i64 999999999] 3)
  have hpB := hSB.lt
  have hnew := heap_alloc_new w1 (.cells #[.int .i64 v1, .int .i64 127, .int .i64 128, .int .i64 16384, .int .i64 999999999] 3)
  have hp1 := hS1.lt
  have HNEW : Hid ((w1.alloc (.cells #[.int .i64 v1, .int .i64 127, .int .i64 128, .int .i64 16384, .int .i64 999999999] 3)).heap[w1.heap.size]? = some (.cells #[.int .i64 v1, .int .i64 127, .int .i64 128, .int .i64 16384, .int .i64 999999999] 3)) := hnew
  clear hnew hv1
  go_wp2_with fail
  refine (next_any p (T + 3) a n cap 10 _ hSB hCB (by omega) (by omega)).mono ?_
  rintro e w2 ⟨⟨v2, hv2, rfl⟩, hS2, hW2⟩
  have hv2' : v2 < 10 := by omega
  have hC2 := hCB.went hW2 (Nat.le_of_lt hSB.lt)
  clear hv2
  go_wp2_with fail
  refine (next_any p (T + 3 + 3) a n cap 4 _ hS2 hC2 (by omega) (by omega)).mono ?_
  rintro e w3 ⟨⟨v3, hv3, rfl⟩, hS3, hW3⟩
  have hv3' : v3 < 4 := by omega
  have hW23 := hW2.trans hW3
  have hB : w3.heap[w1.heap.size]? = some (.cells #[.int .i64 v1, .int .i64 127, .int .i64 128, .int .i64 16384, .int .i64 999999999] 3) := by
    rw [hW23.block w1.heap.size (by simp) (fun e => by cases e; omega)]
    exact HNEW.out
  have k0 : w3.cell? ⟨w1.heap.size, 0, none⟩ = some (.int .i64 v1) := by rw [cell_of_row w3 _ 0 _ _ _ hB]; rfl
  have k1 : w3.cell? ⟨w1.heap.size, 1, none⟩ = some (.int .i64 127) := by rw [cell_of_row w3 _ 1 _ _ _ hB]; rfl
  have k2 : w3.cell? ⟨w1.heap.size, 2, none⟩ = some (.int .i64 128) := by rw [cell_of_row w3 _ 2 _ _ _ hB]; rfl
  have k3 : w3.cell? ⟨w1.heap.size, 3, none⟩ = some (.int .i64 16384) := by rw [cell_of_row w3 _ 3 _ _ _ hB]; rfl
  have k4 : w3.cell? ⟨w1.heap.size, 4, none⟩ = some (.int .i64 999999999) := by rw [cell_of_row w3 _ 4 _ _ _ hB]; rfl
  have hWW := hWB.trans hW23
  have hS9 : Src w3 p (.slice a n cap) (T + 9) := hS3.mono (by omega)
  clear hB HNEW hW23 hW2 hW3 hS2 hS3 hSB hCB hC2 hC1 hS1 hS hC hWB hW1 hv3
  by_cases h6 : v2 < 6
  · have hq : (v2 : Int) / 6 = 0 := by omega
    go_wp2
    go_ret
    exact ⟨⟨v1, by omega, rfl⟩, hS9, hWW⟩
  · have hq : (v2 : Int) / 6 = 1 := by omega
    have hc : v3 = 0 ∨ v3 = 1 ∨ v3 = 2 ∨ v3 = 3 := by omega
    rcases hc with rfl | rfl | rfl | rfl
    · go_wp2
      go_ret
      exact ⟨⟨127, by omega, rfl⟩, hS9, hWW⟩
    · go_wp2
      go_ret
      exact ⟨⟨128, by omega, rfl⟩, hS9, hWW⟩
    · go_wp2
      go_ret
      exact ⟨⟨16384, by omega, rfl⟩, hS9, hWW⟩
    · go_wp2
      go_ret
      exact ⟨⟨999999999, by omega, rfl⟩, hS9, hWW⟩

theorem one_i64' (n : Int) : ∀ u ∈ [Value.int .i64 n], u.oneCell' = true := by intro u hu; simp at hu; subst hu; rfl

set_option maxHeartbeats 2000000 in
set_option maxRecDepth 100000 in
theorem numbers_any (p T : Nat) (a : Option Addr) (n cap : Nat) (w : World) (hS : Src w p (.slice a n cap) T) (hC : Code w p a n cap) (hT : T ≤ 700000) :
    Calls Tryd.prog 21 #[.pointer (some ⟨p, 0, none⟩)] w fun e w' => (∃ (v : Value) (zs : List Int), zs.length ≤ 7 ∧ (∀ z ∈ zs, 0 ≤ z ∧ z ≤ 999999999) ∧ e = .returned v ∧ w'.ownsRow w.heap.size 3 1 v zs.length (zs.map (Value.int .i64))) ∧ Src w' p (.slice a n cap) (T + 100) ∧ Went p w w' := by
  obtain ⟨i0, hi, hz0, hz1, hz2⟩ := info_parts info_int
  have hp := Nat.le_of_lt hS.lt
  have hpl := hS.lt
  have hSB := hS.alloc (.cells #[] 3)
  have hCB := hC.went (World.grownBy_alloc w (.cells #[] 3) (some p)) hp
  have hO : (w.alloc (.cells #[] 3)).ownsRow w.heap.size 3 1 (.slice (some ⟨w.heap.size, 0, none⟩) 0 0) 0 [] := World.ownsRow_lit w #[] 0 (Nat.le_refl _) (by unfold maxLen; omega) rfl
  go_enter Tryd.func21, Tryd.ntmps21
  go_wp2_with fail
  refine (next_any p T a n cap 8 _ hSB hCB (by omega) (by omega)).mono ?_
  rintro e w1 ⟨⟨v1, hv1, rfl⟩, hS1, hW1⟩
  have hv8 : v1 < 8 := by omega
  have hC1 := hCB.went hW1 (Nat.le_of_lt hSB.lt)
  have hO1 := owns_went hO hW1 hpl
  have hWW : Went p w w1 := (World.grownBy_alloc w (.cells #[] 3) (some p) : Went p w _).trans hW1
  clear hO hW1 hSB hCB hv1
  go_wp2
  go_loopw [3, 4] (fun so si wr => ∃ (j l : Nat) (zs : List Int), j + l = v1 ∧ zs.length = l ∧ (∀ z ∈ zs, 0 ≤ z ∧ z ≤ 999999999) ∧ si = .int .i64 j ∧ wr.ownsRow w.heap.size 3 1 so l (zs.map (Value.int .i64)) ∧ Src wr p (.slice a n cap) (T + 3 + 9 * l) ∧ Code wr p a n cap ∧ Went p w wr) (fun _ si _ => (intOf si).toNat)
  case atStart => exact ⟨v1, 0, [], by omega, rfl, by simp, rfl, hO1, hS1, hC1, hWW⟩
  case round =>
    obtain ⟨j, l, zs, hjl, hzl, hz, rfl, hr, hSr, hCr, hW⟩ := hrel
    have HZ : Hid ((∀ z ∈ zs, 0 ≤ z ∧ z ≤ 999999999) ∧ zs.length = l ∧ j + l = v1) := ⟨hz, hzl, hjl⟩
    have hl7 : l ≤ 7 := by omega
    have hj7 : j ≤ 7 := by omega
    clear hz
    by_cases hlt : 0 < j
    · go_wp2_with fail
      refine (number_any p (T + 3 + 9 * l) a n cap _ hSr hCr (by omega)).mono ?_
      rintro e w2 ⟨⟨z, hz, rfl⟩, hS2, hW2⟩
      have hr1 := owns_went hr hW2 hpl
      have hC2 := hCr.went hW2 (Nat.le_of_lt hSr.lt)
      have hWW2 := hW.trans hW2
      have hsz := hWW2.size
      clear hr hSr hCr hW hW2 hjl hzl
      go_wp2_with (at_builtin; refine wpList_append_own _ rfl _ _ 23 rfl w.heap.size 3 i0 (.int .i64 0) 1 8 Tryd.underlying23 hi hz0 hz1 hz2 rfl (by decide) _ _ _ rfl (hr1.alloc _) ⟨w2.heap.size, 0, none⟩ 1 1 [.int .i64 (z : Int)] rfl rfl (cell_one_new _ _ _) (one_i64' _) ?c3 ?c4 ?c5 ?_)
      case c3 => unfold maxLen; omega
      case c4 => omega
      case c5 => simp; omega
      intro v' w3 hown' hgrow _
      have R : w3.ownsRow w.heap.size 3 1 v' (l + 1) ((zs ++ [(z : Int)]).map (Value.int .i64)) := by simpa using hown'
      have hS3 : Src w3 p (.slice a n cap) (T + 3 + 9 * (l + 1)) := ((hS2.alloc _).grown hgrow (fun k hk => by have := (hr1.lt k hk).1; omega)).mono (by omega)
      have hW3 : Went p w w3 := (hWW2.alloc _).grown hgrow (fun k hk => (hr1.lt k hk).1)
      have hC3 : Code w3 p a n cap := hC2.below (((Below.refl p w2).alloc (Nat.le_of_lt hS2.lt) _).grown hgrow (by simp; have := hS2.lt; omega) (fun k hk => by have := (hr1.lt k hk).1; omega))
      clear hown' hgrow hr1 hS2 hC2 hWW2
      go_wp2
      go_roundw
      case rel =>
        refine ⟨j - 1, l + 1, zs ++ [(z : Int)], by have := HZ.out.2.2; omega, by simp [HZ.out.2.1], ?_, by go_num, R, hS3, hC3, hW3⟩
        intro y hy
        rcases List.mem_append.1 hy with h | h
        · exact HZ.out.1 y h
        · simp at h; omega
      case measure => simp [intOf]; omega
    · obtain rfl : j = 0 := by omega
      rw [← hzl] at hr
      have HR : Hid (wr.ownsRow w.heap.size 3 1 u3 zs.length (zs.map (Value.int .i64))) := hr
      have hS' : Src wr p (.slice a n cap) (T + 100) := hSr.mono (by omega)
      clear hCr hr hSr hjl hzl
      go_wp2
      go_ret
      exact ⟨⟨_, zs, by rw [HZ.out.2.1]; exact hl7, HZ.out.1, rfl, HR.out⟩, hS', hW⟩

set_option maxHeartbeats 1000000 in
theorem numbersDrawn_any (a : Option Addr) (n cap : Nat) (zs : List Int) (w : World) (hI : IsRow .u8 w a n cap zs) (hn : n ≤ 1048576) :
    Calls Tryd.prog 5 #[.slice a n cap] w fun e w' => (∃ (v : Value) (ys : List Int), ys.length ≤ 7 ∧ (∀ z ∈ ys, 0 ≤ z ∧ z ≤ 999999999) ∧ e = .returned v ∧ w'.ownsRow w.heap.size 3 1 v ys.length (ys.map (Value.int .i64))) ∧ Below w.heap.size w w' := by
  have hC := code_of hI hn
  go_enter Tryd.func5, Tryd.ntmps5
  go_wp2_with fail
  refine (l00Source_any a n cap _ hn).mono ?_
  rintro e w1 ⟨rfl, hS1, hb1⟩
  have hC1 := hC.below hb1
  go_wp2_with fail
  refine (numbers_any _ 0 a n cap _ hS1 hC1 (by omega)).mono ?_
  rintro e w2 ⟨⟨v, ys, hy1, hy2, rfl, ho⟩, hS2, hW2⟩
  have hb2 := hW2.below (Nat.le_of_lt hS1.lt)
  have ho' : w2.ownsRow w.heap.size 3 1 v ys.length (ys.map (Value.int .i64)) := by
    refine ⟨ho.1, ?_⟩
    rcases ho.2 with h | ⟨g, cap', cur, e1, e2, e3⟩
    · exact .inl h
    · exact .inr ⟨g, cap', cur, e1, by have := hS1.lt; omega, e3⟩
  have HO : Hid (w2.ownsRow w.heap.size 3 1 v ys.length (ys.map (Value.int .i64))) := ho'
  clear ho ho' hS2 hW2
  go_wp2
  go_ret
  exact ⟨⟨v, ys, hy1, hy2, rfl, HO.out⟩, hb1.trans hb2⟩
end Go.Proofs.YthbbeflcmnehpaaDoor
