/-
  FnBugs, part 32 of 50 (DrwB).
-/
import Derived.Test.YtkmnnmgopnoffaaDoorJ21
import Derived.Test.YtkmnnmgopnoffaaDoorJ26
import Derived.Test.YtkmnnmgopnoffaaDoorJ31

/-
  The specification's drawn bugs.
-/
namespace Go.Proofs.YtkmnnmgopnoffaaDoor
open Go.RowKit
set_option linter.unusedVariables false
set_option linter.unusedSimpArgs false

theorem Blk.wentB {p g t : Nat} {w w' : World} {cs : List Value} (h : Blk w g t cs) (hw : Went p w w') (hne : g ≠ p) : Blk w' g t cs := h.kept hw (fun e => hne (by cases e; rfl))

set_option maxHeartbeats 1000000 in
set_option maxRecDepth 100000 in
theorem chance_any (p T : Nat) (a : Option Addr) (n cap : Nat) (k : Int) (w : World) (hS : Src w p (.slice a n cap) T) (hC : Code w p a n cap) (hT : T ≤ 900000) (hk0 : 0 ≤ k) (hk : k ≤ 1000000) :
    Calls Tryd.prog 146 #[.pointer (some ⟨p, 0, none⟩), .int .i64 k] w fun e w' => (∃ b : Bool, Hid True ∧ e = .returned (.bool b)) ∧ Src w' p (.slice a n cap) (T + 3) ∧ Went p w w' := by
  go_enter Tryd.func146, Tryd.ntmps146
  go_wp2_with fail
  refine (next_any p T a n cap k _ hS hC (by omega) (by omega)).mono ?_
  rintro e w1 ⟨⟨v, hv, rfl⟩, hS1, hW⟩
  clear hS hC
  go_wp2
  go_ret
  exact ⟨⟨_, trivial, rfl⟩, hS1, hW⟩

set_option maxHeartbeats 4000000 in
set_option maxRecDepth 100000 in
theorem bug_any (p T : Nat) (a : Option Addr) (n cap : Nat) (w : World) (hS : Src w p (.slice a n cap) T) (hC : Code w p a n cap) (hT : T ≤ 800000) :
    Calls Tryd.prog 116 #[.pointer (some ⟨p, 0, none⟩)] w fun e w' => (∃ x : I3, okB x = true ∧ e = .returned x.val) ∧ Src w' p (.slice a n cap) (T + 12) ∧ Went p w w' := by
  have hpl := hS.lt
  have hpB : p < w.heap.size := hS.lt
  have pR := Blk.new w 54 [.int .i64 0, .int .i64 0, .int .i64 0]
  replace hS := hS.alloc (.cells #[.int .i64 0, .int .i64 0, .int .i64 0] 54)
  replace hC := hC.below ((Below.refl p w).alloc (Nat.le_of_lt hpl) (.cells #[.int .i64 0, .int .i64 0, .int .i64 0] 54))
  have hWt := (Went.refl p w).alloc (.cells #[.int .i64 0, .int .i64 0, .int .i64 0] 54)
  go_enter Tryd.func116, Tryd.ntmps116
  go_wp2_with fail
  generalize hwA : w.alloc (.cells #[.int .i64 0, .int .i64 0, .int .i64 0] 54) = wA at pR hS hC hWt
  replace pR : Blk wA w.heap.size 54 [.int .i64 0, .int .i64 0, .int .i64 0] := by rw [← hwA]; exact Blk.new w 54 [.int .i64 0, .int .i64 0, .int .i64 0]
  clear hwA
  refine (chance_any p T a n cap 4 _ hS hC (by omega) (by omega) (by omega)).mono ?_
  rintro e w1 ⟨⟨b, -, rfl⟩, hS1, hW1⟩
  have hpA := hS.lt
  replace hC := hC.went hW1 (Nat.le_of_lt hpA)
  replace hWt := hWt.trans hW1
  replace pR := pR.wentB hW1 (by omega)
  replace hS := hS1
  clear hS1 hW1 hpA
  cases b
  · go_wp2_with fail
    refine (next_any p (T + 3) a n cap 2 _ hS hC (by omega) (by omega)).mono ?_
    rintro e w2 ⟨⟨v, hv, rfl⟩, hS1, hW1⟩
    have hpA := hS.lt
    replace hC := hC.went hW1 (Nat.le_of_lt hpA)
    replace hWt := hWt.trans hW1
    replace pR := pR.wentB hW1 (by omega)
    replace hS := hS1
    clear hS1 hW1 hpA
    go_wp2_with fail
    refine (next_any p (T + 3 + 3) a n cap 3 _ hS hC (by omega) (by omega)).mono ?_
    rintro e w3 ⟨⟨v2, hv2, rfl⟩, hS1, hW1⟩
    have hpA := hS.lt
    replace hC := hC.went hW1 (Nat.le_of_lt hpA)
    replace hWt := hWt.trans hW1
    replace pR := pR.wentB hW1 (by omega)
    replace hS := hS1
    clear hS1 hW1 hpA
    go_wp2_with fail
    refine (next_any p (T + 3 + 3 + 3) a n cap 4 _ hS hC (by omega) (by omega)).mono ?_
    rintro e w4 ⟨⟨v3, hv3, rfl⟩, hS1, hW1⟩
    replace hWt := hWt.trans hW1
    replace pR := pR.wentB hW1 (by omega)
    replace hS := hS1
    clear hS1 hW1
    go_wp2_with (refine wpList_store_blk rfl 54 _ _ rfl w.heap.size [.int .i64 (12 + v), .int .i64 v2, .int .i64 v3] rfl rfl pR (by kernel_rfl) rfl rfl ?_)
    intro w5 pR2 g2
    have hS5 := (hS.grown g2 (fun k e => by cases e; omega)).mono (show _ ≤ T + 12 by omega)
    have hW5 := hWt.grown g2 (fun k e => by cases e; omega)
    clear hS hWt g2 hC
    go_wp2_with fail
    refine bodyPost_ret (results_blk1 Tryd.results116 _ _ _ _ _ _ rfl pR2.out Tryd.underlying54 rfl (by kernel_rfl)) rfl ?_
    refine ⟨⟨(12 + v, v2, v3), ?_, rfl⟩, hS5, hW5⟩
    have h1 : v = 0 ∨ v = 1 := by omega
    have h2 : v2 = 0 ∨ v2 = 1 ∨ v2 = 2 := by omega
    have h3 : v3 = 0 ∨ v3 = 1 ∨ v3 = 2 ∨ v3 = 3 := by omega
    rcases h1 with rfl | rfl <;> rcases h2 with rfl | rfl | rfl <;> rcases h3 with rfl | rfl | rfl | rfl <;> decide
  · go_wp2_with (refine wpList_store_blk rfl 54 _ _ rfl w.heap.size [.int .i64 14, .int .i64 0, .int .i64 0] rfl rfl pR (by kernel_rfl) rfl rfl ?_)
    intro w5 pR2 g2
    have hS5 := (hS.grown g2 (fun k e => by cases e; omega)).mono (show _ ≤ T + 12 by omega)
    have hW5 := hWt.grown g2 (fun k e => by cases e; omega)
    clear hS hWt g2 hC
    go_wp2_with fail
    refine bodyPost_ret (results_blk1 Tryd.results116 _ _ _ _ _ _ rfl pR2.out Tryd.underlying54 rfl (by kernel_rfl)) rfl ?_
    exact ⟨⟨(14, 0, 0), by decide, rfl⟩, hS5, hW5⟩
set_option maxHeartbeats 2000000 in
set_option maxRecDepth 100000 in
theorem bugs_any (p T : Nat) (a : Option Addr) (n cap : Nat) (w : World) (hS : Src w p (.slice a n cap) T) (hC : Code w p a n cap) (hT : T ≤ 700000) :
    Calls Tryd.prog 81 #[.pointer (some ⟨p, 0, none⟩)] w fun e w' => (∃ (v : Value) (zs : List I3), zs.length ≤ 5 ∧ (∀ z ∈ zs, okB z = true) ∧ e = .returned v ∧ w'.ownsRow w.heap.size 54 3 v zs.length (flat zs)) ∧ Src w' p (.slice a n cap) (T + 100) ∧ Went p w w' := by
  obtain ⟨i0, hi, hz0, hz1, hz2⟩ := info_parts info_bug
  have hp := Nat.le_of_lt hS.lt
  have hpl := hS.lt
  have hSB := hS.alloc (.cells #[] 54)
  have hCB := hC.went (World.grownBy_alloc w (.cells #[] 54) (some p)) hp
  have hO : (w.alloc (.cells #[] 54)).ownsRow w.heap.size 54 3 (.slice (some ⟨w.heap.size, 0, none⟩) 0 0) 0 [] := own_emptyB w 54 3 w.heap.size (Nat.le_refl _)
  go_enter Tryd.func81, Tryd.ntmps81
  go_wp2_with fail
  refine (next_any p T a n cap 5 _ hSB hCB (by omega) (by omega)).mono ?_
  rintro e w1 ⟨⟨v1, hv1, rfl⟩, hS1, hW1⟩
  have hv8 : v1 < 5 := by omega
  have hC1 := hCB.went hW1 (Nat.le_of_lt hSB.lt)
  have hO1 := owns_wn hO hW1 hpl
  have hWW : Went p w w1 := (World.grownBy_alloc w (.cells #[] 54) (some p) : Went p w _).trans hW1
  clear hO hW1 hSB hCB hv1
  go_wp2
  go_loopw [3, 4] (fun so si wr => ∃ (j l : Nat) (zs : List I3), j + l = v1 ∧ zs.length = l ∧ (∀ z ∈ zs, okB z = true) ∧ si = .int .i64 j ∧ wr.ownsRow w.heap.size 54 3 so l (flat zs) ∧ Src wr p (.slice a n cap) (T + 3 + 12 * l) ∧ Code wr p a n cap ∧ Went p w wr) (fun _ si _ => (intOf si).toNat)
  case atStart => exact ⟨v1, 0, [], by omega, rfl, by simp, rfl, hO1, hS1, hC1, hWW⟩
  case round =>
    obtain ⟨j, l, zs, hjl, hzl, hz, rfl, hr, hSr, hCr, hW⟩ := hrel
    have HZ : Hid ((∀ z ∈ zs, okB z = true) ∧ zs.length = l ∧ j + l = v1) := ⟨hz, hzl, hjl⟩
    have hl7 : l ≤ 5 := by omega
    have hj7 : j ≤ 5 := by omega
    clear hz
    by_cases hlt : 0 < j
    · go_wp2_with fail
      refine (bug_any p (T + 3 + 12 * l) a n cap _ hSr hCr (by omega)).mono ?_
      rintro e w2 ⟨⟨⟨z0, z1, z2⟩, hz, rfl⟩, hS2, hW2⟩
      have HB : Hid (okB (z0, z1, z2) = true) := hz
      rw [show I3.val (z0, z1, z2) = .agg #[.int .i64 z0, .int .i64 z1, .int .i64 z2] from rfl]
      have hr1 := owns_wn hr hW2 hpl
      have hC2 := hCr.went hW2 (Nat.le_of_lt hSr.lt)
      have hWW2 := hW.trans hW2
      have hsz := hWW2.size
      have pB := Blk.new w2 54 [.int .i64 z0, .int .i64 z1, .int .i64 z2]
      have e0 := pB.cell 0
      have e1 := pB.cell 1
      have e2 := pB.cell 2
      clear hr hSr hCr hW hW2 hjl hzl hz pB
      go_wp2_with (at_builtin; refine wpList_append_own _ rfl _ _ 47 rfl w.heap.size 54 i0 (.agg #[.int .i64 0, .int .i64 0, .int .i64 0]) 3 24 Tryd.underlying47 hi hz0 hz1 hz2 rfl (by decide) _ _ _ rfl (hr1.alloc _) ⟨w2.heap.size, 0, none⟩ 1 1 [.int .i64 z0, .int .i64 z1, .int .i64 z2] rfl rfl (three_at e0 e1 e2) (three_one _ _ _) ?c3 ?c4 ?c5 ?_)
      case c3 => unfold maxLen; omega
      case c4 => omega
      case c5 => simp; omega
      intro v' w3 hown' hgrow _
      have R : w3.ownsRow w.heap.size 54 3 v' (l + 1) (flat (zs ++ [(z0, z1, z2)])) := by rw [flat_append]; exact hown'
      have hS3 : Src w3 p (.slice a n cap) (T + 3 + 12 * (l + 1)) := ((hS2.alloc _).grown hgrow (fun k hk => by have := (hr1.lt k hk).1; omega)).mono (by omega)
      have hW3 : Went p w w3 := (hWW2.alloc _).grown hgrow (fun k hk => (hr1.lt k hk).1)
      have hC3 : Code w3 p a n cap := hC2.below (((Below.refl p w2).alloc (Nat.le_of_lt hS2.lt) _).grown hgrow (by simp; have := hS2.lt; omega) (fun k hk => by have := (hr1.lt k hk).1; omega))
      clear hown' hgrow hr1 hS2 hC2 hWW2 e0 e1 e2
      go_wp2
      go_roundw
      case rel =>
        refine ⟨j - 1, l + 1, zs ++ [(z0, z1, z2)], by have := HZ.out.2.2; omega, by simp [HZ.out.2.1], ?_, by go_num, R, hS3, hC3, hW3⟩
        intro y hy
        rcases List.mem_append.1 hy with h | h
        · exact HZ.out.1 y h
        · simp at h; subst h; exact HB.out
      case measure => simp [intOf]; omega
    · obtain rfl : j = 0 := by omega
      rw [← hzl] at hr
      have HR : Hid (wr.ownsRow w.heap.size 54 3 u3 zs.length (flat zs)) := hr
      have hS' : Src wr p (.slice a n cap) (T + 100) := hSr.mono (by omega)
      clear hCr hr hSr hjl hzl
      go_wp2
      go_ret
      exact ⟨⟨_, zs, by rw [HZ.out.2.1]; exact hl7, HZ.out.1, rfl, HR.out⟩, hS', hW⟩

theorem bugsD_of_own {w : World} {B : Nat} {v : Value} {xs : List I3} (h : w.ownsRow B 54 3 v xs.length (flat xs)) (hf : ∀ x ∈ xs, I3.fits x) : ∃ a cap, v = .slice a xs.length cap ∧ Instrs w a xs.length cap xs := by
  rcases h.2 with ⟨rfl, h0⟩ | ⟨g, cap, cur, hv, _⟩
  · exact ⟨none, 0, by rw [h0], rfl, by omega, by unfold maxLen; omega, hf, .inl h0⟩
  · subst hv
    exact ⟨_, _, rfl, Instrs.of_owns h rfl hf rfl⟩
theorem okBD_cases {x : I3} (h : okB x = true) : x = (14, 0, 0) ∨ ∃ k a b : Nat, (k = 12 ∨ k = 13) ∧ a < 3 ∧ b < 6 ∧ x = ((k : Int), (a : Int), (b : Int)) := by
  obtain ⟨c, a, b⟩ := x
  unfold okB at h
  simp only at h
  split at h
  · rename_i e
    simp at h
    exact .inl (by rw [e, h.1, h.2])
  · split at h
    · rename_i e
      simp [inB_true] at h
      refine .inr ⟨c.toNat, a.toNat, b.toNat, by omega, by omega, by omega, ?_⟩
      rw [Int.toNat_of_nonneg (by omega), Int.toNat_of_nonneg (by omega), Int.toNat_of_nonneg (by omega)]
    · cases h
theorem okB_fits {x : I3} (h : okB x = true) : I3.fits x := by
  rcases okBD_cases h with rfl | ⟨k, a, b, hk, ha, hb, rfl⟩
  · unfold I3.fits; decide
  · have h2 : a = 0 ∨ a = 1 ∨ a = 2 := by omega
    have h3 : b = 0 ∨ b = 1 ∨ b = 2 ∨ b = 3 ∨ b = 4 ∨ b = 5 := by omega
    rcases hk with rfl | rfl <;> rcases h2 with rfl | rfl | rfl <;> rcases h3 with rfl | rfl | rfl | rfl | rfl | rfl <;> (unfold I3.fits; decide)
set_option maxHeartbeats 2000000 in
set_option maxRecDepth 100000 in
theorem bugsDrawn_any (a : Option Addr) (n cap : Nat) (zs : List Int) (w : World) (hI : IsRow .u8 w a n cap zs) (hn : n ≤ 1048576) :
    Calls Tryd.prog 27 #[.slice a n cap] w fun e w' => (∃ (v : Value) (ys : List I3), ys.length ≤ 5 ∧ (∀ z ∈ ys, okB z = true) ∧ Rises ys ∧ e = .returned v ∧ w'.ownsRow w.heap.size 54 3 v ys.length (flat ys)) ∧ Below w.heap.size w w' := by
  have hC := code_of hI hn
  go_enter Tryd.func27, Tryd.ntmps27
  go_wp2_with fail
  refine (l00Source_any a n cap _ hn).mono ?_
  rintro e w1 ⟨rfl, hS1, hb1⟩
  have hC1 := hC.below hb1
  go_wp2_with fail
  refine (bugs_any _ 0 a n cap _ hS1 hC1 (by omega)).mono ?_
  rintro e w2 ⟨⟨v, ys, hy1, hy2, rfl, ho⟩, hS2, hW2⟩
  have hb2 := hb1.trans (hW2.below (Nat.le_of_lt hS1.lt))
  have hf : ∀ z ∈ ys, I3.fits z := fun z hz => okB_fits (hy2 z hz)
  obtain ⟨aY, cY, rfl, hY⟩ := bugsD_of_own ho hf
  have HY : Hid (∀ z ∈ ys, okB z = true) := hy2
  clear ho hS2 hW2 hb1 hS1 hC1 hf hy2
  have bw3 : Below w2.heap.size w2 (w2.alloc (.cells #[] 54)) := by go_grown
  have hY3 := hY.below bw3
  have hE : Instrs (w2.alloc (.cells #[] 54)) (some ⟨w2.heap.size, 0, none⟩) 0 0 [] := by
    obtain ⟨_, _, e, h⟩ := bugsD_of_own (xs := []) (own_emptyB w2 54 3 w2.heap.size (Nat.le_refl _)) (by simp)
    cases e
    exact h
  go_wp2_with fail
  refine (l04Merge_is aY ys.length cY ys _ 0 0 [] _ hY3 hE (by omega) (by omega)).mono ?_
  rintro e w4 ⟨⟨v4, rfl, ho4⟩, hb4⟩
  have hs4 : w.heap.size ≤ (w2.alloc (.cells #[] 54)).heap.size := Nat.le_trans hb2.size bw3.size
  have HO : Hid (w4.ownsRow w.heap.size 54 3 v4 (mergeB ys []).length (flat (mergeB ys []))) := own_lowerB ho4 hs4
  have hb := (hb2.trans (bw3.mono hb2.size)).trans (hb4.mono hs4)
  clear hb2 bw3 hY3 hE hY ho4 hb4
  have hl := mergeB_len ys []
  go_wp2
  go_ret
  exact ⟨⟨v4, mergeB ys [], by simp at hl; omega, fun z hz => by rcases mem_mergeB.1 hz with h | h; exact HY.out z h; simp at h, mergeB_rises _ _, rfl, HO.out⟩, hb⟩
end Go.Proofs.YtkmnnmgopnoffaaDoor
