/-
  FnBugs, part 50 of 50 (FnBugsWalk).
-/
import Derived.Test.YtkmnnmgopnoffaaDoorJ33
import Derived.Test.YtkmnnmgopnoffaaDoorJ42
import Derived.Test.YtkmnnmgopnoffaaDoorJ45
import Derived.Test.YtkmnnmgopnoffaaDoorJ49
import Derived.Test.YtkmnnmgopnoffaaDoorJ44

/-
  FnBugs: what was merged is in order, the same from either side, holds what was put in, and is read back from its texts.
-/
namespace Go.Proofs.YtkmnnmgopnoffaaDoor
open Go.RowKit
set_option linter.unusedVariables false
set_option linter.unusedSimpArgs false

theorem read_back {x : I3} (h : okB x = true) {e : Ending} (hR : RbOut (textB x) e) : e = .returned (.tuple #[x.val, .int .i64 0]) := by
  have hs := textB_size x h
  rcases hR with ⟨hl, _⟩ | ⟨_, ⟨y, hy, rfl⟩ | ⟨hn, _⟩⟩
  · omega
  · rw [hy.only (text_back h)]
  · exact absurd (text_back h) (hn x)
theorem bugs_good {w : World} {B n c : Nat} {a : Option Addr} {cs : List Value} (h : w.ownsRow B 54 3 (.slice a n c) n cs) : GoodS a c := by
  rcases h.2 with ⟨hv, h0⟩ | ⟨g, cap, cur, hv, _⟩
  · cases hv
    exact ⟨fun _ => rfl, fun x hx => by cases hx⟩
  · cases hv
    exact ⟨(fun h => by cases h), fun x hx => by cases hx; rfl⟩
theorem okBs_of {xs : List I3} (h : ∀ z ∈ xs, okB z = true) : okBs xs = true := by unfold okBs; rw [List.all_eq_true]; exact h
theorem mergeZ_ok {xs ys : List I3} (h : ∀ z ∈ xs, okB z = true) (k : ∀ z ∈ ys, okB z = true) (h5 : xs.length ≤ 5) (k5 : ys.length ≤ 5) : mergeZ xs ys = mergeB xs ys ∧ mergeC xs ys = 0 := by
  have hn : ¬ (4096 < xs.length ∨ 4096 < ys.length) := by omega
  unfold mergeZ mergeC
  rw [if_neg hn, if_neg hn, okBs_of h, okBs_of k]
  exact ⟨rfl, rfl⟩
theorem leak_add (a b : Nat) (ha : a ≤ 5) (hb : b ≤ 5) : IntKind.i64.wrap ((a : Int) + (b : Int)) = (a : Int) + (b : Int) := IntWalk.i64_in _ ⟨by omega, by omega⟩

set_option maxHeartbeats 8000000 in
set_option maxRecDepth 100000 in
theorem fnBugs_walk (a0 : Option Addr) (len0 cap0 : Nat) (z0 : List Int) (a1 : Option Addr) (len1 cap1 : Nat) (z1 : List Int) (w : World) (h0 : IsRow .u8 w a0 len0 cap0 z0) (h1 : IsRow .u8 w a1 len1 cap1 z1) (hT : Table w) :
    Calls Tryd.prog 5 #[.slice a0 len0 cap0, .slice a1 len1 cap1] w fun e w' => e = .returned (.bool true) ∧ Below w.heap.size w w' := by
  have m0 := h0.len_le
  have m1 := h1.len_le
  unfold maxLen at m0 m1
  by_cases hb0 : 1048576 < len0
  · go_enter Tryd.func5, Tryd.ntmps5
    go_wp2
    go_ret
    exact ⟨rfl, Below.refl _ _⟩
  by_cases hb1 : 1048576 < len1
  · go_enter Tryd.func5, Tryd.ntmps5
    go_wp2
    go_ret
    exact ⟨rfl, Below.refl _ _⟩
  have hn0 : len0 ≤ 1048576 := by omega
  have hn1 : len1 ≤ 1048576 := by omega
  go_enter Tryd.func5, Tryd.ntmps5
  go_wp2_with fail
  refine (bugsDrawn_any a0 len0 cap0 z0 w h0 hn0).mono ?_
  rintro e w1 ⟨⟨vX, xs, lx, okx, _, rfl, oX⟩, bw⟩
  have fx : ∀ z ∈ xs, I3.fits z := fun z hz => okB_fits (okx z hz)
  obtain ⟨aX, cX, rfl, iX⟩ := bugsD_of_own oX fx
  have gX := bugs_good oX
  have h1' := h1.below bw
  replace hT := hT.below bw
  clear oX h0 h1 hb0 hb1 m0 m1
  go_wp2_with fail
  refine (bugsDrawn_any a1 len1 cap1 z1 w1 h1' hn1).mono ?_
  rintro e w2 ⟨⟨vY, ys, ly, oky, _, rfl, oY⟩, hb⟩
  have fy : ∀ z ∈ ys, I3.fits z := fun z hz => okB_fits (oky z hz)
  obtain ⟨aY, cY, rfl, iY⟩ := bugsD_of_own oY fy
  have gY := bugs_good oY
  replace bw := bel_trans bw hb
  replace hT := hT.below hb
  replace iX := iX.below hb
  clear oY hb h1'
  have kM := fun W hx hy => implMergeBugs_is aX xs.length cX xs aY ys.length cY ys W hx hy (by omega) (by omega) gX gY
  have kS := fun W hx hy => specMergeBugs_is aX xs.length cX xs aY ys.length cY ys W hx hy (by omega) (by omega)
  have kR := fun W hy hx => implMergeBugs_is aY ys.length cY ys aX xs.length cX xs W hy hx (by omega) (by omega) gY gX
  rw [(mergeZ_ok okx oky lx ly).1, (mergeZ_ok okx oky lx ly).2] at kM kS
  rw [(mergeZ_ok oky okx ly lx).1, (mergeZ_ok oky okx ly lx).2, mergeB_comm] at kR
  have lM := mergeB_len xs ys
  have HM : Hid (∀ z, z ∈ mergeB xs ys ↔ z ∈ xs ∨ z ∈ ys) := fun z => mem_mergeB
  have HOk : Hid (∀ z ∈ mergeB xs ys, okB z = true) := fun z hz => by
    rcases mem_mergeB.1 hz with h | h
    · exact okx z h
    · exact oky z h
  have fM : ∀ z ∈ mergeB xs ys, I3.fits z := fun z hz => okB_fits (HOk.out z hz)
  obtain ⟨ms, hms⟩ : ∃ ms, ms = mergeB xs ys := ⟨_, rfl⟩
  rw [← hms] at kM kS kR lM HM HOk fM
  have HX : Hid (∀ z ∈ xs, okB z = true) := okx
  have HY : Hid (∀ z ∈ ys, okB z = true) := oky
  clear hms okx oky gX gY fx fy
  have lm : ms.length ≤ 10 := by omega
  have lMi : (ms.length : Int) ≤ (xs.length : Int) + (ys.length : Int) := by omega
  have lAd := leak_add _ _ lx ly
  generalize hnX : xs.length = nX at *
  generalize hnY : ys.length = nY at *
  generalize hnM : ms.length = nM at *
  have HNX : Hid (xs.length = nX) := hnX
  have HNM : Hid (ms.length = nM) := hnM
  clear hnX hnY hnM lM
  go_wp2_with fail
  refine (kM w2 iX iY).mono ?_
  rintro e w3 ⟨⟨vM, rfl, oM⟩, hb⟩
  rw [HNM.out] at oM
  obtain ⟨aM, cM, rfl, iM⟩ : ∃ a c, vM = .slice a nM c ∧ Instrs w3 a nM c ms := by
    have h9 := bugsD_of_own (v := vM) (xs := ms) (by rw [HNM.out]; exact oM) fM
    rw [HNM.out] at h9
    exact h9
  replace bw := bel_trans bw hb
  replace hT := hT.below hb
  replace iX := iX.below hb
  replace iY := iY.below hb
  clear oM hb kM
  go_wp2_with fail
  refine (kS w3 iX iY).mono ?_
  rintro e w4 ⟨⟨vN, rfl, oN⟩, hb⟩
  rw [HNM.out] at oN
  obtain ⟨aN, cN, rfl, iN⟩ : ∃ a c, vN = .slice a nM c ∧ Instrs w4 a nM c ms := by
    have h9 := bugsD_of_own (v := vN) (xs := ms) (by rw [HNM.out]; exact oN) fM
    rw [HNM.out] at h9
    exact h9
  replace bw := bel_trans bw hb
  replace hT := hT.below hb
  replace iX := iX.below hb
  replace iY := iY.below hb
  replace iM := iM.below hb
  clear oN hb kS
  go_wp2_with fail
  refine (kR w4 iY iX).mono ?_
  rintro e w5 ⟨⟨vR, rfl, oR⟩, hb⟩
  rw [HNM.out] at oR
  obtain ⟨aR, cR, rfl, iR⟩ : ∃ a c, vR = .slice a nM c ∧ Instrs w5 a nM c ms := by
    have h9 := bugsD_of_own (v := vR) (xs := ms) (by rw [HNM.out]; exact oR) fM
    rw [HNM.out] at h9
    exact h9
  replace bw := bel_trans bw hb
  replace hT := hT.below hb
  replace iX := iX.below hb
  replace iY := iY.below hb
  replace iM := iM.below hb
  replace iN := iN.below hb
  clear oR hb kR fM
  go_wp2_with fail
  refine (sameBugs_same aM aN nM cM cN ms w5 iM iN (by omega)).mono ?_
  rintro e w6 ⟨rfl, hb⟩
  replace bw := bel_trans bw hb
  replace hT := hT.below hb
  replace iX := iX.below hb
  replace iY := iY.below hb
  replace iM := iM.below hb
  replace iR := iR.below hb
  clear hb iN
  go_wp2_with fail
  refine (sameBugs_same aR aM nM cR cM ms w6 iR iM (by omega)).mono ?_
  rintro e w7 ⟨rfl, hb⟩
  replace bw := bel_trans bw hb
  replace hT := hT.below hb
  replace iX := iX.below hb
  replace iY := iY.below hb
  replace iM := iM.below hb
  clear hb iR
  go_wp2_with fail
  go_loopw [13] (fun si wr => ∃ k : Nat, k ≤ nM ∧ si = .int .i64 k ∧ Below w.heap.size w wr ∧ Table wr ∧ Instrs wr aX nX cX xs ∧ Instrs wr aY nY cY ys ∧ Instrs wr aM nM cM ms) (fun si _ => nM - (intOf si).toNat)
  case atStart => exact ⟨0, by omega, rfl, bw, hT, iX, iY, iM⟩
  case round =>
    clear bw hT iX iY iM
    obtain ⟨k, hk, rfl, bw, hT, iX, iY, iM⟩ := hrel
    by_cases hlt : k < nM
    · have iM' := iM
      obtain ⟨_, _, _, _, hcase⟩ := iM'
      rcases hcase with e0 | ⟨b, off, rfl, hb, hc⟩
      · omega
      obtain ⟨d0, d1, d2⟩ := hc k hlt
      clear hc hb
      have hmem : ms.getD k (0, 0, 0) ∈ ms := getD_memB (by have := HNM.out; omega)
      generalize ms.getD k (0, 0, 0) = x at d0 d1 d2 hmem
      have hok := HOk.out x hmem
      have HIn : Hid (x ∈ xs ∨ x ∈ ys) := (HM.out x).1 hmem
      have kT := fun W hT => implBugText_is x W hT
      have kB := implBugOK_is x
      have hcb : codeB x = 0 := by unfold codeB; rw [hok]; rfl
      have hsz := textB_size x hok
      have HRB : Hid (∀ e, RbOut (textB x) e → e = .returned (.tuple #[x.val, .int .i64 0])) := fun e hR => read_back hok hR
      have kX := fun W hX => hasBug_is aX nX cX xs x W hX (by omega)
      have kY := fun W hY => hasBug_is aY nY cY ys x W hY (by omega)
      have HHY : Hid (hasB xs x = false → hasB ys x = true) := fun hf => by
        rcases HIn.out with h | h
        · have := hasB_iff.2 h; rw [hf] at this; cases this
        · exact hasB_iff.2 h
      rw [hcb] at kT
      rw [hok] at kB
      obtain ⟨tx, htx⟩ : ∃ tx, tx = textB x := ⟨_, rfl⟩
      rw [← htx] at kT hsz HRB
      clear hcb hok hmem htx HIn
      have kRd := fun W hT => implReadBug_any tx W (by omega) hT
      clear hsz
      generalize hasB xs x = bx at kX HHY
      generalize hasB ys x = bY at kY HHY
      obtain ⟨x0, x1, x2⟩ := x
      unfold I3.val at kT kB kX kY HRB
      simp only at d0 d1 d2 kT kB kX kY HRB
      have hlt' : (k : Int) < (nM : Int) := by omega
      have hk0 : (0 : Int) ≤ (k : Int) := by omega
      go_wp2_with fail
      refine (kT wr hT).mono ?_
      rintro e w8 ⟨rfl, hb⟩
      replace bw := bel_trans bw hb
      replace hT := hT.below hb
      replace iX := iX.below hb
      replace iY := iY.below hb
      replace iM := iM.below hb
      replace d0 := cells_kept hb _ _ d0
      replace d1 := cells_kept hb _ _ d1
      replace d2 := cells_kept hb _ _ d2
      clear hb kT
      go_wp2_with fail
      refine (kRd w8 hT).mono ?_
      rintro e w9 ⟨hR, hb⟩
      obtain rfl := HRB.out _ hR
      replace bw := bel_trans bw hb
      replace hT := hT.below hb
      replace iX := iX.below hb
      replace iY := iY.below hb
      replace iM := iM.below hb
      replace d0 := cells_kept hb _ _ d0
      replace d1 := cells_kept hb _ _ d1
      replace d2 := cells_kept hb _ _ d2
      clear hb hR HRB kRd
      have ha : Below w9.heap.size w9 (w9.alloc (.cells #[.int .i64 x0, .int .i64 x1, .int .i64 x2] 54)) := by go_grown
      have c0 : (w9.alloc (.cells #[.int .i64 x0, .int .i64 x1, .int .i64 x2] 54)).cell? ⟨w9.heap.size, 0, none⟩ = some (.int .i64 x0) := by simp [go_sem]
      have c1 : (w9.alloc (.cells #[.int .i64 x0, .int .i64 x1, .int .i64 x2] 54)).cell? ⟨w9.heap.size, 1, none⟩ = some (.int .i64 x1) := by simp [go_sem]
      have c2 : (w9.alloc (.cells #[.int .i64 x0, .int .i64 x1, .int .i64 x2] 54)).cell? ⟨w9.heap.size, 2, none⟩ = some (.int .i64 x2) := by simp [go_sem]
      replace bw := bel_trans bw ha
      replace hT := hT.below ha
      replace iX := iX.below ha
      replace iY := iY.below ha
      replace iM := iM.below ha
      replace d0 := cells_kept ha _ _ d0
      replace d1 := cells_kept ha _ _ d1
      replace d2 := cells_kept ha _ _ d2
      clear ha
      go_wp2_with fail
      generalize (w9.alloc (.cells #[.int .i64 x0, .int .i64 x1, .int .i64 x2] 54)) = w10 at *
      generalize w9.heap.size = G at *
      have q0 : (x0 == x0) = true := by simp
      have q1 : (x1 == x1) = true := by simp
      have q2 : (x2 == x2) = true := by simp
      refine wp_region_held_drew (S := (fun w' => w'.cell? ⟨b, off + k * 3, none⟩ = some (.int .i64 x0) ∧ w'.cell? ⟨b, off + k * 3 + 1, none⟩ = some (.int .i64 x1) ∧ w'.cell? ⟨b, off + k * 3 + 2, none⟩ = some (.int .i64 x2) ∧ w'.cell? ⟨G, 0, none⟩ = some (.int .i64 x0) ∧ w'.cell? ⟨G, 1, none⟩ = some (.int .i64 x1) ∧ w'.cell? ⟨G, 2, none⟩ = some (.int .i64 x2))) (by kernel_rfl) ⟨d0, d1, d2, c0, c1, c2⟩ (fun hS0 => ?_)
      refine wpAnyH_take (i := 0) (oi := { dst := some 86, op := _, type := _, pos := _, after := _, guard := _ }) (v := (.int .i64 0)) rfl (by kernel_rfl) (by kernel_rfl) (by kernel_rfl) (fun _ _ _ h => h) (Or.inl ⟨by rfl, ?_⟩) (by assumption) ?_
      · (intro w' hSw; (try dsimp only at hSw); go_simp; try rfl)
      simp only [Act.put, List.setIfInBounds_toArray, List.set_cons_zero, List.set_cons_succ]
      refine wpAnyH_take (i := 1) (oi := { dst := some 87, op := _, type := _, pos := _, after := _, guard := _ }) (v := (.bool false)) rfl (by kernel_rfl) (by kernel_rfl) (by kernel_rfl) (fun _ _ _ h => h) (Or.inl ⟨by rfl, ?_⟩) (by assumption) ?_
      · (intro w' hSw; (try dsimp only at hSw); go_simp; try rfl)
      simp only [Act.put, List.setIfInBounds_toArray, List.set_cons_zero, List.set_cons_succ]
      refine wpAnyH_take (i := 2) (oi := { dst := some 88, op := _, type := _, pos := _, after := _, guard := _ }) (v := (.bool false)) rfl (by kernel_rfl) (by kernel_rfl) (by kernel_rfl) (fun _ _ _ h => h) (Or.inl ⟨by rfl, ?_⟩) (by assumption) ?_
      · (intro w' hSw; (try dsimp only at hSw); go_simp; try rfl)
      simp only [Act.put, List.setIfInBounds_toArray, List.set_cons_zero, List.set_cons_succ]
      refine wpAnyH_take (i := 3) (oi := { dst := some 89, op := _, type := _, pos := _, after := _, guard := _ }) (v := (.int .i64 0)) rfl (by kernel_rfl) (by kernel_rfl) (by kernel_rfl) (fun _ _ _ h => h) (Or.inl ⟨by rfl, ?_⟩) (by assumption) ?_
      · (intro w' hSw; (try dsimp only at hSw); go_simp; try rfl)
      simp only [Act.put, List.setIfInBounds_toArray, List.set_cons_zero, List.set_cons_succ]
      refine wpAnyH_take (i := 4) (oi := { dst := some 90, op := _, type := _, pos := _, after := _, guard := _ }) (v := (.bool false)) rfl (by kernel_rfl) (by kernel_rfl) (by kernel_rfl) (fun _ _ _ h => h) (Or.inl ⟨by rfl, ?_⟩) (by assumption) ?_
      · (intro w' hSw; (try dsimp only at hSw); go_simp; try rfl)
      simp only [Act.put, List.setIfInBounds_toArray, List.set_cons_zero, List.set_cons_succ]
      refine wpAnyH_take (i := 5) (oi := { dst := some 91, op := _, type := _, pos := _, after := _, guard := _ }) (v := (.bool false)) rfl (by kernel_rfl) (by kernel_rfl) (by kernel_rfl) (fun _ _ _ h => h) (Or.inl ⟨by rfl, ?_⟩) (by assumption) ?_
      · (intro w' hSw; (try dsimp only at hSw); go_simp; try rfl)
      simp only [Act.put, List.setIfInBounds_toArray, List.set_cons_zero, List.set_cons_succ]
      refine wpAnyH_take (i := 6) (oi := { dst := some 92, op := _, type := _, pos := _, after := _, guard := _ }) (v := (.bool false)) rfl (by kernel_rfl) (by kernel_rfl) (by kernel_rfl) (fun _ _ _ h => h) (Or.inl ⟨by rfl, ?_⟩) (by assumption) ?_
      · (intro w' hSw; (try dsimp only at hSw); go_simp; try rfl)
      simp only [Act.put, List.setIfInBounds_toArray, List.set_cons_zero, List.set_cons_succ]
      refine wpAnyH_take (i := 7) (oi := { dst := some 93, op := _, type := _, pos := _, after := _, guard := _ }) (v := (.agg #[.int .i64 x0, .int .i64 x1, .int .i64 x2])) rfl (by kernel_rfl) (by kernel_rfl) (by kernel_rfl) (fun _ _ _ h => h) (Or.inl ⟨by rfl, ?_⟩) (by assumption) ?_
      · (intro w' hSw; (try dsimp only at hSw); go_simp; try rfl)
      simp only [Act.put, List.setIfInBounds_toArray, List.set_cons_zero, List.set_cons_succ]
      refine wpAnyH_take (i := 8) (oi := { dst := some 94, op := _, type := _, pos := _, after := _, guard := _ }) (v := (.slice (some ⟨b, off, none⟩) nM cM)) rfl (by kernel_rfl) (by kernel_rfl) (by kernel_rfl) (fun _ _ _ h => h) (Or.inl ⟨by rfl, ?_⟩) (by assumption) ?_
      · (intro w' hSw; (try dsimp only at hSw); go_simp; try rfl)
      simp only [Act.put, List.setIfInBounds_toArray, List.set_cons_zero, List.set_cons_succ]
      refine wpAnyH_take (i := 9) (oi := { dst := some 95, op := _, type := _, pos := _, after := _, guard := _ }) (v := (.int .i64 (k : Int))) rfl (by kernel_rfl) (by kernel_rfl) (by kernel_rfl) (fun _ _ _ h => h) (Or.inl ⟨by rfl, ?_⟩) (by assumption) ?_
      · (intro w' hSw; (try dsimp only at hSw); go_simp; try rfl)
      simp only [Act.put, List.setIfInBounds_toArray, List.set_cons_zero, List.set_cons_succ]
      refine wpAnyH_take (i := 10) (oi := { dst := some 96, op := _, type := _, pos := _, after := _, guard := _ }) (v := (.pointer (some ⟨b, off + k * 3, none⟩))) rfl (by kernel_rfl) (by kernel_rfl) (by kernel_rfl) (fun _ _ _ h => h) (Or.inl ⟨by rfl, ?_⟩) (by assumption) ?_
      · (intro w' hSw; (try dsimp only at hSw); go_simp; try rfl)
      simp only [Act.put, List.setIfInBounds_toArray, List.set_cons_zero, List.set_cons_succ]
      refine wpAnyH_take (i := 11) (oi := { dst := some 97, op := _, type := _, pos := _, after := _, guard := _ }) (v := (.agg #[.int .i64 x0, .int .i64 x1, .int .i64 x2])) rfl (by kernel_rfl) (by kernel_rfl) (by kernel_rfl) (fun _ _ _ h => h) (Or.inl ⟨by rfl, ?_⟩) (by assumption) ?_
      · (intro w' hSw; (try dsimp only at hSw); go_simp; try rfl)
      simp only [Act.put, List.setIfInBounds_toArray, List.set_cons_zero, List.set_cons_succ]
      refine wpAnyH_take (i := 12) (oi := { dst := some 98, op := _, type := _, pos := _, after := _, guard := _ }) (v := (.bool false)) rfl (by kernel_rfl) (by kernel_rfl) (by kernel_rfl) (fun _ _ _ h => h) (Or.inl ⟨by rfl, ?_⟩) (by assumption) ?_
      · (intro w' hSw; (try dsimp only at hSw); go_simp; try rfl)
      simp only [Act.put, List.setIfInBounds_toArray, List.set_cons_zero, List.set_cons_succ]
      refine wpAnyH_take (i := 13) (oi := { dst := some 99, op := _, type := _, pos := _, after := _, guard := _ }) (v := (.bool false)) rfl (by kernel_rfl) (by kernel_rfl) (by kernel_rfl) (fun _ _ _ h => h) (Or.inl ⟨by rfl, ?_⟩) (by assumption) ?_
      · (intro w' hSw; (try dsimp only at hSw); go_simp; try rfl)
      simp only [Act.put, List.setIfInBounds_toArray, List.set_cons_zero, List.set_cons_succ]
      refine wpAnyH_take (i := 14) (oi := { dst := some 100, op := _, type := _, pos := _, after := _, guard := _ }) (v := (.bool false)) rfl (by kernel_rfl) (by kernel_rfl) (by kernel_rfl) (fun _ _ _ h => h) (Or.inl ⟨by rfl, ?_⟩) (by assumption) ?_
      · (intro w' hSw; (try dsimp only at hSw); go_simp; try rfl)
      simp only [Act.put, List.setIfInBounds_toArray, List.set_cons_zero, List.set_cons_succ]
      refine wpAnyH_take (i := 15) (oi := { dst := some 101, op := _, type := _, pos := _, after := _, guard := _ }) (v := (.slice (some ⟨b, off, none⟩) nM cM)) rfl (by kernel_rfl) (by kernel_rfl) (by kernel_rfl) (fun _ _ _ h => h) (Or.inl ⟨by rfl, ?_⟩) (by assumption) ?_
      · (intro w' hSw; (try dsimp only at hSw); go_simp; try rfl)
      simp only [Act.put, List.setIfInBounds_toArray, List.set_cons_zero, List.set_cons_succ]
      refine wpAnyH_take (i := 16) (oi := { dst := some 102, op := _, type := _, pos := _, after := _, guard := _ }) (v := (.int .i64 (k : Int))) rfl (by kernel_rfl) (by kernel_rfl) (by kernel_rfl) (fun _ _ _ h => h) (Or.inl ⟨by rfl, ?_⟩) (by assumption) ?_
      · (intro w' hSw; (try dsimp only at hSw); go_simp; try rfl)
      simp only [Act.put, List.setIfInBounds_toArray, List.set_cons_zero, List.set_cons_succ]
      refine wpAnyH_take (i := 17) (oi := { dst := some 103, op := _, type := _, pos := _, after := _, guard := _ }) (v := (.pointer (some ⟨b, off + k * 3, none⟩))) rfl (by kernel_rfl) (by kernel_rfl) (by kernel_rfl) (fun _ _ _ h => h) (Or.inl ⟨by rfl, ?_⟩) (by assumption) ?_
      · (intro w' hSw; (try dsimp only at hSw); go_simp; try rfl)
      simp only [Act.put, List.setIfInBounds_toArray, List.set_cons_zero, List.set_cons_succ]
      refine wpAnyH_take (i := 18) (oi := { dst := some 104, op := _, type := _, pos := _, after := _, guard := _ }) (v := (.agg #[.int .i64 x0, .int .i64 x1, .int .i64 x2])) rfl (by kernel_rfl) (by kernel_rfl) (by kernel_rfl) (fun _ _ _ h => h) (Or.inl ⟨by rfl, ?_⟩) (by assumption) ?_
      · (intro w' hSw; (try dsimp only at hSw); go_simp; try rfl)
      simp only [Act.put, List.setIfInBounds_toArray, List.set_cons_zero, List.set_cons_succ]
      refine wpAnyH_ready (rs := [19]) (by kernel_rfl) (by simp) ?_
      refine AllReadyH.cons (o := { dst := some 105, op := _, type := _, pos := _, after := _, guard := _ }) rfl (fun K hK => ?_) AllReadyH.nil
      go_simp
      refine (kB _).mono ?_
      rintro e w11 ⟨rfl, hb⟩
      replace hb : Below w10.heap.size w10 w11 := ⟨hb.os, hb.tape, hb.output, hb.size, hb.block⟩
      replace bw := bel_trans bw hb
      replace hT := hT.below hb
      replace iX := iX.below hb
      replace iY := iY.below hb
      replace iM := iM.below hb
      replace d0 := cells_kept hb _ _ d0
      replace d1 := cells_kept hb _ _ d1
      replace d2 := cells_kept hb _ _ d2
      replace c0 := cells_kept hb _ _ c0
      replace c1 := cells_kept hb _ _ c1
      replace c2 := cells_kept hb _ _ c2
      clear hb
      go_wp2_with fail
      refine hK.out _ _ ⟨d0, d1, d2, c0, c1, c2⟩ (fun hS1 => ?_)
      clear hK
      try simp only [Act.put, List.setIfInBounds_toArray, List.set_cons_zero, List.set_cons_succ]
      refine wpAnyH_take (i := 20) (oi := { dst := some 106, op := _, type := _, pos := _, after := _, guard := _ }) (v := (.bool false)) rfl (by kernel_rfl) (by kernel_rfl) (by kernel_rfl) (fun _ _ _ h => h) (Or.inl ⟨by rfl, ?_⟩) (by assumption) ?_
      · (intro w' hSw; (try dsimp only at hSw); go_simp; try rfl)
      simp only [Act.put, List.setIfInBounds_toArray, List.set_cons_zero, List.set_cons_succ]
      refine wpAnyH_take (i := 21) (oi := { dst := some 107, op := _, type := _, pos := _, after := _, guard := _ }) (v := (.bool false)) rfl (by kernel_rfl) (by kernel_rfl) (by kernel_rfl) (fun _ _ _ h => h) (Or.inl ⟨by rfl, ?_⟩) (by assumption) ?_
      · (intro w' hSw; (try dsimp only at hSw); go_simp; try rfl)
      simp only [Act.put, List.setIfInBounds_toArray, List.set_cons_zero, List.set_cons_succ]
      refine wpAnyH_take (i := 22) (oi := { dst := some 108, op := _, type := _, pos := _, after := _, guard := _ }) (v := (.bool false)) rfl (by kernel_rfl) (by kernel_rfl) (by kernel_rfl) (fun _ _ _ h => h) (Or.inl ⟨by rfl, ?_⟩) (by assumption) ?_
      · (intro w' hSw; (try dsimp only at hSw); go_simp; try rfl)
      simp only [Act.put, List.setIfInBounds_toArray, List.set_cons_zero, List.set_cons_succ]
      refine wpAnyH_take (i := 23) (oi := { dst := some 109, op := _, type := _, pos := _, after := _, guard := _ }) (v := (.slice aX nX cX)) rfl (by kernel_rfl) (by kernel_rfl) (by kernel_rfl) (fun _ _ _ h => h) (Or.inl ⟨by rfl, ?_⟩) (by assumption) ?_
      · (intro w' hSw; (try dsimp only at hSw); go_simp; try rfl)
      simp only [Act.put, List.setIfInBounds_toArray, List.set_cons_zero, List.set_cons_succ]
      refine wpAnyH_take (i := 24) (oi := { dst := some 110, op := _, type := _, pos := _, after := _, guard := _ }) (v := (.slice (some ⟨b, off, none⟩) nM cM)) rfl (by kernel_rfl) (by kernel_rfl) (by kernel_rfl) (fun _ _ _ h => h) (Or.inl ⟨by rfl, ?_⟩) (by assumption) ?_
      · (intro w' hSw; (try dsimp only at hSw); go_simp; try rfl)
      simp only [Act.put, List.setIfInBounds_toArray, List.set_cons_zero, List.set_cons_succ]
      refine wpAnyH_take (i := 25) (oi := { dst := some 111, op := _, type := _, pos := _, after := _, guard := _ }) (v := (.int .i64 (k : Int))) rfl (by kernel_rfl) (by kernel_rfl) (by kernel_rfl) (fun _ _ _ h => h) (Or.inl ⟨by rfl, ?_⟩) (by assumption) ?_
      · (intro w' hSw; (try dsimp only at hSw); go_simp; try rfl)
      simp only [Act.put, List.setIfInBounds_toArray, List.set_cons_zero, List.set_cons_succ]
      refine wpAnyH_take (i := 26) (oi := { dst := some 112, op := _, type := _, pos := _, after := _, guard := _ }) (v := (.pointer (some ⟨b, off + k * 3, none⟩))) rfl (by kernel_rfl) (by kernel_rfl) (by kernel_rfl) (fun _ _ _ h => h) (Or.inl ⟨by rfl, ?_⟩) (by assumption) ?_
      · (intro w' hSw; (try dsimp only at hSw); go_simp; try rfl)
      simp only [Act.put, List.setIfInBounds_toArray, List.set_cons_zero, List.set_cons_succ]
      refine wpAnyH_take (i := 27) (oi := { dst := some 113, op := _, type := _, pos := _, after := _, guard := _ }) (v := (.agg #[.int .i64 x0, .int .i64 x1, .int .i64 x2])) rfl (by kernel_rfl) (by kernel_rfl) (by kernel_rfl) (fun _ _ _ h => h) (Or.inl ⟨by rfl, ?_⟩) (by assumption) ?_
      · (intro w' hSw; (try dsimp only at hSw); go_simp; try rfl)
      simp only [Act.put, List.setIfInBounds_toArray, List.set_cons_zero, List.set_cons_succ]
      cases bx
      · obtain rfl := HHY.out rfl
        refine wpAnyH_ready (rs := [28]) (by kernel_rfl) (by simp) ?_
        refine AllReadyH.cons (o := { dst := some 114, op := _, type := _, pos := _, after := _, guard := _ }) rfl (fun K hK => ?_) AllReadyH.nil
        go_simp
        refine (kX w11 iX).mono ?_
        rintro e w12 ⟨rfl, hb⟩
        replace bw := bel_trans bw hb
        replace hT := hT.below hb
        replace iX := iX.below hb
        replace iY := iY.below hb
        replace iM := iM.below hb
        replace d0 := cells_kept hb _ _ d0
        replace d1 := cells_kept hb _ _ d1
        replace d2 := cells_kept hb _ _ d2
        replace c0 := cells_kept hb _ _ c0
        replace c1 := cells_kept hb _ _ c1
        replace c2 := cells_kept hb _ _ c2
        clear hb
        go_wp2_with fail
        refine hK.out _ _ ⟨d0, d1, d2, c0, c1, c2⟩ (fun hS2 => ?_)
        clear hK
        try simp only [Act.put, List.setIfInBounds_toArray, List.set_cons_zero, List.set_cons_succ]
        refine wpAnyH_take (i := 29) (oi := { dst := some 115, op := _, type := _, pos := _, after := _, guard := _ }) (v := (.bool true)) rfl (by kernel_rfl) (by kernel_rfl) (by kernel_rfl) (fun _ _ _ h => h) (Or.inl ⟨by rfl, ?_⟩) (by assumption) ?_
        · (intro w' hSw; (try dsimp only at hSw); go_simp; try rfl)
        simp only [Act.put, List.setIfInBounds_toArray, List.set_cons_zero, List.set_cons_succ]
        refine wpAnyH_take (i := 30) (oi := { dst := some 116, op := _, type := _, pos := _, after := _, guard := _ }) (v := (.bool true)) rfl (by kernel_rfl) (by kernel_rfl) (by kernel_rfl) (fun _ _ _ h => h) (Or.inl ⟨by rfl, ?_⟩) (by assumption) ?_
        · (intro w' hSw; (try dsimp only at hSw); go_simp; try rfl)
        simp only [Act.put, List.setIfInBounds_toArray, List.set_cons_zero, List.set_cons_succ]
        refine wpAnyH_take (i := 31) (oi := { dst := some 117, op := _, type := _, pos := _, after := _, guard := _ }) (v := (.slice aY nY cY)) rfl (by kernel_rfl) (by kernel_rfl) (by kernel_rfl) (fun _ _ _ h => h) (Or.inl ⟨by rfl, ?_⟩) (by assumption) ?_
        · (intro w' hSw; (try dsimp only at hSw); go_simp; try rfl)
        simp only [Act.put, List.setIfInBounds_toArray, List.set_cons_zero, List.set_cons_succ]
        refine wpAnyH_take (i := 32) (oi := { dst := some 118, op := _, type := _, pos := _, after := _, guard := _ }) (v := (.slice (some ⟨b, off, none⟩) nM cM)) rfl (by kernel_rfl) (by kernel_rfl) (by kernel_rfl) (fun _ _ _ h => h) (Or.inl ⟨by rfl, ?_⟩) (by assumption) ?_
        · (intro w' hSw; (try dsimp only at hSw); go_simp; try rfl)
        simp only [Act.put, List.setIfInBounds_toArray, List.set_cons_zero, List.set_cons_succ]
        refine wpAnyH_take (i := 33) (oi := { dst := some 119, op := _, type := _, pos := _, after := _, guard := _ }) (v := (.int .i64 (k : Int))) rfl (by kernel_rfl) (by kernel_rfl) (by kernel_rfl) (fun _ _ _ h => h) (Or.inl ⟨by rfl, ?_⟩) (by assumption) ?_
        · (intro w' hSw; (try dsimp only at hSw); go_simp; try rfl)
        simp only [Act.put, List.setIfInBounds_toArray, List.set_cons_zero, List.set_cons_succ]
        refine wpAnyH_take (i := 34) (oi := { dst := some 120, op := _, type := _, pos := _, after := _, guard := _ }) (v := (.pointer (some ⟨b, off + k * 3, none⟩))) rfl (by kernel_rfl) (by kernel_rfl) (by kernel_rfl) (fun _ _ _ h => h) (Or.inl ⟨by rfl, ?_⟩) (by assumption) ?_
        · (intro w' hSw; (try dsimp only at hSw); go_simp; try rfl)
        simp only [Act.put, List.setIfInBounds_toArray, List.set_cons_zero, List.set_cons_succ]
        refine wpAnyH_take (i := 35) (oi := { dst := some 121, op := _, type := _, pos := _, after := _, guard := _ }) (v := (.agg #[.int .i64 x0, .int .i64 x1, .int .i64 x2])) rfl (by kernel_rfl) (by kernel_rfl) (by kernel_rfl) (fun _ _ _ h => h) (Or.inl ⟨by rfl, ?_⟩) (by assumption) ?_
        · (intro w' hSw; (try dsimp only at hSw); go_simp; try rfl)
        simp only [Act.put, List.setIfInBounds_toArray, List.set_cons_zero, List.set_cons_succ]
        refine wpAnyH_ready (rs := [36]) (by kernel_rfl) (by simp) ?_
        refine AllReadyH.cons (o := { dst := some 122, op := _, type := _, pos := _, after := _, guard := _ }) rfl (fun K hK => ?_) AllReadyH.nil
        go_simp
        refine (kY w12 iY).mono ?_
        rintro e w13 ⟨rfl, hb⟩
        replace bw := bel_trans bw hb
        replace hT := hT.below hb
        replace iX := iX.below hb
        replace iY := iY.below hb
        replace iM := iM.below hb
        replace d0 := cells_kept hb _ _ d0
        replace d1 := cells_kept hb _ _ d1
        replace d2 := cells_kept hb _ _ d2
        replace c0 := cells_kept hb _ _ c0
        replace c1 := cells_kept hb _ _ c1
        replace c2 := cells_kept hb _ _ c2
        clear hb
        go_wp2_with fail
        refine hK.out _ _ ⟨d0, d1, d2, c0, c1, c2⟩ (fun hS3 => ?_)
        clear hK
        try simp only [Act.put, List.setIfInBounds_toArray, List.set_cons_zero, List.set_cons_succ]
        refine wpAnyH_take (i := 37) (oi := { dst := some 123, op := _, type := _, pos := _, after := _, guard := _ }) (v := (.bool false)) rfl (by kernel_rfl) (by kernel_rfl) (by kernel_rfl) (fun _ _ _ h => h) (Or.inl ⟨by rfl, ?_⟩) (by assumption) ?_
        · (intro w' hSw; (try dsimp only at hSw); go_simp; try rfl)
        simp only [Act.put, List.setIfInBounds_toArray, List.set_cons_zero, List.set_cons_succ]
        refine wpAnyH_take (i := 38) (oi := { dst := some 124, op := _, type := _, pos := _, after := _, guard := _ }) (v := (.bool false)) rfl (by kernel_rfl) (by kernel_rfl) (by kernel_rfl) (fun _ _ _ h => h) (Or.inl ⟨by rfl, ?_⟩) (by assumption) ?_
        · (intro w' hSw; (try dsimp only at hSw); go_simp; try rfl)
        simp only [Act.put, List.setIfInBounds_toArray, List.set_cons_zero, List.set_cons_succ]
        refine wpAnyH_take (i := 39) (oi := { dst := some 125, op := _, type := _, pos := _, after := _, guard := _ }) (v := (.bool false)) rfl (by kernel_rfl) (by kernel_rfl) (by kernel_rfl) (fun _ _ _ h => h) (Or.inl ⟨by rfl, ?_⟩) (by assumption) ?_
        · (intro w' hSw; (try dsimp only at hSw); go_simp; try rfl)
        simp only [Act.put, List.setIfInBounds_toArray, List.set_cons_zero, List.set_cons_succ]
        refine wpAnyH_done (by kernel_rfl) ?_ _
        clear hS0 hS1 hS2 hS3 d0 d1 d2 c0 c1 c2 kX kY kB HHY q0 q1 q2
        go_wp2
        go_roundw
        case rel => exact ⟨k + 1, by omega, by go_num, bw, hT, iX, iY, iM⟩
        case measure => simp [intOf]; omega
      · refine wpAnyH_ready (rs := [28]) (by kernel_rfl) (by simp) ?_
        refine AllReadyH.cons (o := { dst := some 114, op := _, type := _, pos := _, after := _, guard := _ }) rfl (fun K hK => ?_) AllReadyH.nil
        go_simp
        refine (kX w11 iX).mono ?_
        rintro e w12 ⟨rfl, hb⟩
        replace bw := bel_trans bw hb
        replace hT := hT.below hb
        replace iX := iX.below hb
        replace iY := iY.below hb
        replace iM := iM.below hb
        replace d0 := cells_kept hb _ _ d0
        replace d1 := cells_kept hb _ _ d1
        replace d2 := cells_kept hb _ _ d2
        replace c0 := cells_kept hb _ _ c0
        replace c1 := cells_kept hb _ _ c1
        replace c2 := cells_kept hb _ _ c2
        clear hb
        go_wp2_with fail
        refine hK.out _ _ ⟨d0, d1, d2, c0, c1, c2⟩ (fun hS2 => ?_)
        clear hK
        try simp only [Act.put, List.setIfInBounds_toArray, List.set_cons_zero, List.set_cons_succ]
        refine wpAnyH_take (i := 29) (oi := { dst := some 115, op := _, type := _, pos := _, after := _, guard := _ }) (v := (.bool false)) rfl (by kernel_rfl) (by kernel_rfl) (by kernel_rfl) (fun _ _ _ h => h) (Or.inl ⟨by rfl, ?_⟩) (by assumption) ?_
        · (intro w' hSw; (try dsimp only at hSw); go_simp; try rfl)
        simp only [Act.put, List.setIfInBounds_toArray, List.set_cons_zero, List.set_cons_succ]
        refine wpAnyH_take (i := 30) (oi := { dst := some 116, op := _, type := _, pos := _, after := _, guard := _ }) (v := (.bool false)) rfl (by kernel_rfl) (by kernel_rfl) (by kernel_rfl) (fun _ _ _ h => h) (Or.inl ⟨by rfl, ?_⟩) (by assumption) ?_
        · (intro w' hSw; (try dsimp only at hSw); go_simp; try rfl)
        simp only [Act.put, List.setIfInBounds_toArray, List.set_cons_zero, List.set_cons_succ]
        refine wpAnyH_take (i := 31) (oi := { dst := some 117, op := _, type := _, pos := _, after := _, guard := _ }) (v := undef) rfl (by kernel_rfl) (by kernel_rfl) (by kernel_rfl) (fun _ _ _ h => h) (Or.inr ⟨by rfl, rfl⟩) (by assumption) ?_
        simp only [Act.put, List.setIfInBounds_toArray, List.set_cons_zero, List.set_cons_succ]
        refine wpAnyH_take (i := 32) (oi := { dst := some 118, op := _, type := _, pos := _, after := _, guard := _ }) (v := undef) rfl (by kernel_rfl) (by kernel_rfl) (by kernel_rfl) (fun _ _ _ h => h) (Or.inr ⟨by rfl, rfl⟩) (by assumption) ?_
        simp only [Act.put, List.setIfInBounds_toArray, List.set_cons_zero, List.set_cons_succ]
        refine wpAnyH_take (i := 33) (oi := { dst := some 119, op := _, type := _, pos := _, after := _, guard := _ }) (v := undef) rfl (by kernel_rfl) (by kernel_rfl) (by kernel_rfl) (fun _ _ _ h => h) (Or.inr ⟨by rfl, rfl⟩) (by assumption) ?_
        simp only [Act.put, List.setIfInBounds_toArray, List.set_cons_zero, List.set_cons_succ]
        refine wpAnyH_take (i := 34) (oi := { dst := some 120, op := _, type := _, pos := _, after := _, guard := _ }) (v := undef) rfl (by kernel_rfl) (by kernel_rfl) (by kernel_rfl) (fun _ _ _ h => h) (Or.inr ⟨by rfl, rfl⟩) (by assumption) ?_
        simp only [Act.put, List.setIfInBounds_toArray, List.set_cons_zero, List.set_cons_succ]
        refine wpAnyH_take (i := 35) (oi := { dst := some 121, op := _, type := _, pos := _, after := _, guard := _ }) (v := undef) rfl (by kernel_rfl) (by kernel_rfl) (by kernel_rfl) (fun _ _ _ h => h) (Or.inr ⟨by rfl, rfl⟩) (by assumption) ?_
        simp only [Act.put, List.setIfInBounds_toArray, List.set_cons_zero, List.set_cons_succ]
        refine wpAnyH_take (i := 36) (oi := { dst := some 122, op := _, type := _, pos := _, after := _, guard := _ }) (v := undef) rfl (by kernel_rfl) (by kernel_rfl) (by kernel_rfl) (fun _ _ _ h => h) (Or.inr ⟨by rfl, rfl⟩) (by assumption) ?_
        simp only [Act.put, List.setIfInBounds_toArray, List.set_cons_zero, List.set_cons_succ]
        refine wpAnyH_take (i := 37) (oi := { dst := some 123, op := _, type := _, pos := _, after := _, guard := _ }) (v := undef) rfl (by kernel_rfl) (by kernel_rfl) (by kernel_rfl) (fun _ _ _ h => h) (Or.inr ⟨by rfl, rfl⟩) (by assumption) ?_
        simp only [Act.put, List.setIfInBounds_toArray, List.set_cons_zero, List.set_cons_succ]
        refine wpAnyH_take (i := 38) (oi := { dst := some 124, op := _, type := _, pos := _, after := _, guard := _ }) (v := (.bool false)) rfl (by kernel_rfl) (by kernel_rfl) (by kernel_rfl) (fun _ _ _ h => h) (Or.inl ⟨by rfl, ?_⟩) (by assumption) ?_
        · (intro w' hSw; (try dsimp only at hSw); go_simp; try rfl)
        simp only [Act.put, List.setIfInBounds_toArray, List.set_cons_zero, List.set_cons_succ]
        refine wpAnyH_take (i := 39) (oi := { dst := some 125, op := _, type := _, pos := _, after := _, guard := _ }) (v := (.bool false)) rfl (by kernel_rfl) (by kernel_rfl) (by kernel_rfl) (fun _ _ _ h => h) (Or.inl ⟨by rfl, ?_⟩) (by assumption) ?_
        · (intro w' hSw; (try dsimp only at hSw); go_simp; try rfl)
        simp only [Act.put, List.setIfInBounds_toArray, List.set_cons_zero, List.set_cons_succ]
        refine wpAnyH_done (by kernel_rfl) ?_ _
        clear hS0 hS1 hS2 d0 d1 d2 c0 c1 c2 kX kY kB HHY q0 q1 q2
        go_wp2
        go_roundw
        case rel => exact ⟨k + 1, by omega, by go_num, bw, hT, iX, iY, iM⟩
        case measure => simp [intOf]; omega
    · obtain rfl : k = nM := by omega
      have hkk : ¬ ((k : Int) < (k : Int)) := by omega
      go_wp2_with fail
      go_loopw [18] (fun si wr => ∃ j : Nat, j ≤ nX ∧ si = .int .i64 j ∧ Below w.heap.size w wr ∧ Instrs wr aX nX cX xs ∧ Instrs wr aM k cM ms) (fun si _ => nX - (intOf si).toNat)
      case atStart => exact ⟨0, by omega, rfl, bw, iX, iM⟩
      case round =>
        clear bw hT iX iY iM
        obtain ⟨j, hj, rfl, bw, iX, iM⟩ := hrel
        by_cases hlt2 : j < nX
        · have iX' := iX
          obtain ⟨_, _, _, _, hcase⟩ := iX'
          rcases hcase with e0 | ⟨b, off, rfl, hb, hc⟩
          · omega
          obtain ⟨d0, d1, d2⟩ := hc j hlt2
          clear hc hb
          have hmem : xs.getD j (0, 0, 0) ∈ xs := getD_memB (by have := HNX.out; omega)
          generalize xs.getD j (0, 0, 0) = x at d0 d1 d2 hmem
          have kH := fun W hM => hasBug_is aM k cM ms x W hM (by omega)
          rw [hasB_iff.2 ((HM.out x).2 (.inl hmem))] at kH
          obtain ⟨x0, x1, x2⟩ := x
          unfold I3.val at kH
          simp only at d0 d1 d2 kH
          have hlt' : (j : Int) < (nX : Int) := by omega
          have hk0 : (0 : Int) ≤ (j : Int) := by omega
          clear hmem
          go_wp2_with fail
          refine (kH wr iM).mono ?_
          rintro e w8 ⟨rfl, hb⟩
          replace bw := bel_trans bw hb
          replace iX := iX.below hb
          replace iM := iM.below hb
          clear hb kH d0 d1 d2
          go_wp2
          go_roundw
          case rel => exact ⟨j + 1, by omega, by go_num, bw, iX, iM⟩
          case measure => simp [intOf]; omega
        · obtain rfl : j = nX := by omega
          go_wp2
          go_ret
          exact ⟨rfl, bw⟩
theorem fnBugs_laid {W : World} (h : laidMetH Tryd.prog Rows.fnBugsRow.laid W) : Table W := by
  rw [MakeChecks.laidMetH_plain _ _ _ (by kernel_rfl)] at h
  exact table_of_met h.tail.tail.tail.tail
end Go.Proofs.YtkmnnmgopnoffaaDoor
