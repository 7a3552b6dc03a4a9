/-
  FnStep, part 48 of 50 (FnKeyWalk).
-/
import Derived.Test.YtkmnnmgopnoffaaDoorJ43
import Derived.Test.YtkmnnmgopnoffaaDoorJ45
import Derived.Test.YtkmnnmgopnoffaaDoorJ46
import Derived.Test.YtkmnnmgopnoffaaDoorJ47

/-
  The specification's VmDrawn; states are read back from their keys: the law's walk.
-/
namespace Go.Proofs.YtkmnnmgopnoffaaDoor
open Go.RowKit
set_option linter.unusedVariables false
set_option linter.unusedSimpArgs false

theorem cell_grownD {w w' : World} {row : Option Nat} (g : w.grownBy w' row) {p : Addr} {v : Value} (hc : w.cell? p = some v) (hne : some p.block ≠ row) : w'.cell? p = some v := by
  have hl := World.block_lt_of_cell? _ _ hc
  rw [← hc]
  unfold World.cell?
  rw [g.block p.block hl hne]
set_option maxHeartbeats 4000000 in
set_option maxRecDepth 100000 in
theorem vmDrawn_any (a : Option Addr) (n cap : Nat) (zs : List Int) (aP : Option Addr) (capP : Nat) (rows : List (List I3)) (w : World) (hI : IsRow .u8 w a n cap zs) (hn : n ≤ 1048576) (hP : Codes w aP 3 capP rows) (hok : progOk rows = true) :
    Calls Tryd.prog 13 #[.slice a n cap, .agg #[.slice aP 3 capP]] w fun e w' => (∃ (t : S4) (m : V4), e = .returned t.val ∧ OwnV w' w.heap.size t m ∧ shapeOk m = true) ∧ Below w.heap.size w w' := by
  have hCo := code_of hI hn
  have bw : Below w.heap.size w ((w.alloc (.cells #[.slice aP 3 capP] 25)).alloc (.cells #[.slice none 0 0, .slice none 0 0, .slice none 0 0, .slice none 0 0] 29)) := by go_grown
  have pP : Blk ((w.alloc (.cells #[.slice aP 3 capP] 25)).alloc (.cells #[.slice none 0 0, .slice none 0 0, .slice none 0 0, .slice none 0 0] 29)) w.heap.size 25 [.slice aP 3 capP] := blkOld _ (blkAt _ _ _ rfl)
  have pR : Blk ((w.alloc (.cells #[.slice aP 3 capP] 25)).alloc (.cells #[.slice none 0 0, .slice none 0 0, .slice none 0 0, .slice none 0 0] 29)) (w.heap.size + 1) 29 [.slice none 0 0, .slice none 0 0, .slice none 0 0, .slice none 0 0] := blkAt _ _ _ (by simp)
  go_enter Tryd.func13, Tryd.ntmps13
  go_wp2_with fail
  generalize hW1 : ((w.alloc (.cells #[.slice aP 3 capP] 25)).alloc (.cells #[.slice none 0 0, .slice none 0 0, .slice none 0 0, .slice none 0 0] 29)) = W1 at *
  have bw1 := bw
  have cP : W1.cell? ⟨w.heap.size, 0, none⟩ = some (.slice aP 3 capP) := pP.cell 0
  refine wp_region_held_drew (S := (fun w' => w'.cell? ⟨w.heap.size, 0, none⟩ = some (.slice aP 3 capP))) (by kernel_rfl) cP (fun hS0 => ?_)
  refine wpAnyH_take (i := 0) (oi := { dst := some 5, op := _, type := _, pos := _, after := _, guard := _ }) (v := (.slice a n cap)) rfl (by kernel_rfl) (by kernel_rfl) (by kernel_rfl) (fun _ _ _ h => h) (Or.inl ⟨by rfl, ?_⟩) (by assumption) ?_
  · (intro w' hSw; (try dsimp only at hSw); go_simp; try rfl)
  simp only [Act.put, List.setIfInBounds_toArray, List.set_cons_zero, List.set_cons_succ]
  refine wpAnyH_take (i := 2) (oi := { dst := some 7, op := _, type := _, pos := _, after := _, guard := _ }) (v := (.agg #[.slice aP 3 capP])) rfl (by kernel_rfl) (by kernel_rfl) (by kernel_rfl) (fun _ _ _ h => h) (Or.inl ⟨by rfl, ?_⟩) (by assumption) ?_
  · (intro w' hSw; (try dsimp only at hSw); go_simp; try rfl)
  simp only [Act.put, List.setIfInBounds_toArray, List.set_cons_zero, List.set_cons_succ]
  refine wpAnyH_ready (rs := [1]) (by kernel_rfl) (by simp) ?_
  refine AllReadyH.cons (o := { dst := some 6, op := _, type := _, pos := _, after := _, guard := _ }) rfl (fun K hK => ?_) AllReadyH.nil
  go_simp
  refine (l00Source_any a n cap W1.drew hn).mono ?_
  rintro e w2 ⟨rfl, hS, hb⟩
  replace hS : Src w2 W1.heap.size (.slice a n cap) 0 := hS
  replace hb : Below W1.heap.size W1 w2 := ⟨hb.os, hb.tape, hb.output, hb.size, hb.block⟩
  have hpl : W1.heap.size < w2.heap.size := hS.lt
  have hCd : Code w2 W1.heap.size a n cap := by
    obtain ⟨zs', q1, q2, q3, q4⟩ := hCo
    exact ⟨zs', q1.below (bel_trans bw hb), q2, q3, fun x hx h0 => by have := q4 x hx h0; have := bw.size; omega⟩
  replace bw := bel_trans bw hb
  replace pP := pP.below hb
  replace pR := pR.below hb
  have hPr : ∀ W, Below W1.heap.size w2 W → Codes W aP 3 capP rows := fun W h => (hP.below bw1).below (hb.trans h)
  have cP2 : w2.cell? ⟨w.heap.size, 0, none⟩ = some (.slice aP 3 capP) := pP.cell 0
  go_wp2_with fail
  refine hK.out _ _ cP2 (fun hS1 => ?_)
  clear hK
  try simp only [Act.put, List.setIfInBounds_toArray, List.set_cons_zero, List.set_cons_succ]
  refine wpAnyH_ready (rs := [3]) (by kernel_rfl) (by simp) ?_
  refine AllReadyH.cons (o := { dst := some 8, op := _, type := _, pos := _, after := _, guard := _ }) rfl (fun K hK => ?_) AllReadyH.nil
  go_simp
  refine (vm_any W1.heap.size 0 a n cap aP capP rows w2 hS hCd (by omega) hok hPr).mono ?_
  rintro e w3 ⟨⟨⟨⟨t0a, t0n, t0c⟩, ⟨t1a, t1n, t1c⟩, ⟨t2a, t2n, t2c⟩, ⟨t3a, t3n, t3c⟩⟩, m, rfl, hO, hs⟩, hb3⟩
  have uA : S4.val ((t0a, t0n, t0c), (t1a, t1n, t1c), (t2a, t2n, t2c), (t3a, t3n, t3c)) = .agg #[.slice t0a t0n t0c, .slice t1a t1n t1c, .slice t2a t2n t2c, .slice t3a t3n t3c] := rfl
  rw [uA]
  clear uA
  have hX : w.heap.size + 1 < W1.heap.size := by simp [← hW1]
  replace pR := pR.belowB hb3 hX
  have cP3 : w3.cell? ⟨w.heap.size, 0, none⟩ = some (.slice aP 3 capP) := (pP.belowB hb3 (by omega)).cell 0
  replace bw : Below w.heap.size w w3 := bw.trans (hb3.mono (by omega))
  go_wp2_with fail
  refine hK.out _ _ cP3 (fun hS2 => ?_)
  clear hK
  try simp only [Act.put, List.setIfInBounds_toArray, List.set_cons_zero, List.set_cons_succ]
  refine wpAnyH_ready (rs := [4]) (by kernel_rfl) (by simp) ?_
  refine AllReadyH.cons (o := { dst := none, op := _, type := _, pos := _, after := _, guard := _ }) rfl (fun K hK => ?_) AllReadyH.nil
  refine step_store_blkD rfl 29 _ _ rfl (w.heap.size + 1) [.slice t0a t0n t0c, .slice t1a t1n t1c, .slice t2a t2n t2c, .slice t3a t3n t3c] rfl rfl pR (by kernel_rfl) rfl rfl ?_
  intro w4 pR2 g2
  have hO4 := (hO.kept9 g2 pR (by decide)).lowerB (B' := w.heap.size) (by have := bw.size; omega)
  have bw4 := bw.grown g2 bw.size (fun k e => by cases e; omega)
  have cP4 := cell_grownD g2 cP3 (fun e => by have h9 := Option.some.inj e; simp at h9)
  refine hK.out _ _ cP4 (fun hS3 => ?_)
  clear hK
  try simp only [Act.put, List.setIfInBounds_toArray, List.set_cons_zero, List.set_cons_succ]
  refine wpAnyH_done (by kernel_rfl) ?_ _
  clear hS hCd hPr hO g2 bw pR pP hS0 hS1 hS2 hS3 cP2 cP3 cP4
  go_wp2_with fail
  refine bodyPost_ret (results_blk1 Tryd.results13 _ _ _ _ _ _ rfl pR2.out Tryd.underlying29 rfl (by kernel_rfl)) rfl ?_
  exact ⟨⟨((t0a, t0n, t0c), (t1a, t1n, t1c), (t2a, t2n, t2c), (t3a, t3n, t3c)), m, rfl, hO4, hs⟩, bw4⟩


theorem btV_str (xs : List Int) (h : ∀ x ∈ xs, 0 ≤ x ∧ x ≤ 255) (i : Nat) (hi : i < xs.length) : btV (strOfNums xs) i = xs.getD i 0 := by
  have hx := h xs[i] (List.getElem_mem hi)
  unfold btV
  simp [strOfNums, List.getD, List.getElem?_eq_getElem hi]
  omega
theorem keyT_size {m : V4} (h : shapeOk m = true) : (keyT m).size = 15 := by
  obtain ⟨l0, l1, l2, l3, _⟩ := shape_parts h
  unfold keyT
  rw [strOfNums_size, List.length_map]
  unfold allOf
  simp [l0, l1, l2, l3]
theorem key_back {m : V4} (h : shapeOk m = true) : bytesV (keyT m) = m := by
  obtain ⟨l0, l1, l2, l3, hd⟩ := shape_parts h
  have hb : ∀ i, i < 15 → btV (keyT m) i - 48 = (allOf m).getD i 0 := fun i hi => by
    have hl : (allOf m).length = 15 := by unfold allOf; simp [l0, l1, l2, l3]
    unfold keyT
    rw [btV_str _ (fun x hx => by obtain ⟨z, hz, rfl⟩ := List.mem_map.1 hx; have := hd z hz; omega) i (by rw [List.length_map]; omega)]
    have e : ((allOf m).map fun z => 48 + z).getD i 0 = 48 + (allOf m).getD i 0 := by
      have hi' : i < (allOf m).length := by omega
      simp [List.getD, List.getElem?_eq_getElem hi']
    rw [e]
    omega
  have b0 := hb 0 (by omega)
  have b1 := hb 1 (by omega)
  have b2 := hb 2 (by omega)
  have b3 := hb 3 (by omega)
  have b4 := hb 4 (by omega)
  have b5 := hb 5 (by omega)
  have b6 := hb 6 (by omega)
  have b7 := hb 7 (by omega)
  have b8 := hb 8 (by omega)
  have b9 := hb 9 (by omega)
  have b10 := hb 10 (by omega)
  have b11 := hb 11 (by omega)
  have b12 := hb 12 (by omega)
  have b13 := hb 13 (by omega)
  have b14 := hb 14 (by omega)
  clear hb hd l0 l1 l2 l3
  obtain ⟨p0, p1, p2, v0, v1, v2, v3, h0, h1, x0, y0, x1, y1, x2, y2, rfl⟩ := shape_lists h
  unfold bytesV partV fillL
  simp [List.range_succ, b0, b1, b2, b3, b4, b5, b6, b7, b8, b9, b10, b11, b12, b13, b14]
  simp [allOf]
theorem same_self {m : V4} (h : shapeOk m = true) : sameV m m = true := by unfold sameV; simp [h]
theorem implVmOf_back {m : V4} (h : shapeOk m = true) (w : World) (hV : VmShape w) :
    Calls Tryd.prog 23 #[.string (keyT m)] w fun e w' => VmGot e w' w.heap.size m 0 ∧ Below w.heap.size w w' := by
  have k := implVmOf_15 (keyT m) w (keyT_size h) hV
  rw [key_back h, h] at k
  exact k
theorem zero_key : (keyT zeroV).toList = [48, 48, 48, 48, 48, 48, 48, 48, 48, 48, 48, 48, 48, 48, 48] := by
  rw [ByteArray.toList_eq]
  decide


set_option maxHeartbeats 8000000 in
set_option maxRecDepth 100000 in
theorem fnKey_walk (a0 : Option Addr) (len0 cap0 : Nat) (z0 : List Int) (a1 : Option Addr) (len1 cap1 : Nat) (z1 : List Int) (w : World) (h0 : IsRow .u8 w a0 len0 cap0 z0) (h1 : IsRow .u8 w a1 len1 cap1 z1) (hV : VmShape w) :
    Calls Tryd.prog 4 #[.slice a0 len0 cap0, .slice a1 len1 cap1] w fun e w' => e = .returned (.bool true) ∧ Below w.heap.size w w' := by
  have m0 := h0.len_le
  have m1 := h1.len_le
  unfold maxLen at m0 m1
  by_cases hb0 : 1048576 < len0
  · go_enter Tryd.func4, Tryd.ntmps4
    go_wp2
    go_ret
    exact ⟨rfl, Below.refl _ _⟩
  by_cases hb1 : 1048576 < len1
  · go_enter Tryd.func4, Tryd.ntmps4
    go_wp2
    go_ret
    exact ⟨rfl, Below.refl _ _⟩
  have l0 : len0 ≤ 1048576 := by omega
  have l1 : len1 ≤ 1048576 := by omega
  clear hb0 hb1 m0 m1
  have bw : Below w.heap.size w w := Below.refl _ _
  go_enter Tryd.func4, Tryd.ntmps4
  go_wp2_with fail
  refine (programDrawn_any _ _ _ z0 _ h0 l0).mono ?_
  rintro e w1 ⟨⟨v, rows, hok, rfl, ho⟩, hb⟩
  have h3 := (progOk_parts hok).1
  obtain ⟨a, cap, hv⟩ := ho.slice
  rw [h3] at hv
  subst hv
  have hC := ho.codes (fun r hr x hx => okI_fits ((progOk_parts hok).2 r hr |>.2 x hx))
  clear ho h0
  replace h1 := h1.below hb
  replace hV := hV.below hb
  replace bw := bel_trans bw hb
  clear hb h3
  have HOK : Hid (progOk rows = true) := hok
  clear hok
  have ha : Below w1.heap.size w1 (w1.alloc (.cells #[.slice a 3 cap] 25)) := by go_grown
  have cP : (w1.alloc (.cells #[.slice a 3 cap] 25)).cell? ⟨w1.heap.size, 0, none⟩ = some (.slice a 3 cap) := by simp [go_sem]
  replace h1 := h1.below ha
  replace hV := hV.below ha
  replace hC := hC.below ha
  replace bw := bel_trans bw ha
  clear ha
  go_wp2_with fail
  generalize (w1.alloc (.cells #[.slice a 3 cap] 25)) = wp at *
  generalize w1.heap.size = P at *
  refine (vmDrawn_any _ _ _ z1 a cap rows _ h1 l1 hC HOK.out).mono ?_
  rintro e w2 ⟨⟨⟨⟨s0a, s0n, s0c⟩, ⟨s1a, s1n, s1c⟩, ⟨s2a, s2n, s2c⟩, ⟨s3a, s3n, s3c⟩⟩, m, rfl, hO, hs⟩, hb⟩
  have uS : S4.val ((s0a, s0n, s0c), (s1a, s1n, s1c), (s2a, s2n, s2c), (s3a, s3n, s3c)) = .agg #[.slice s0a s0n s0c, .slice s1a s1n s1c, .slice s2a s2n s2c, .slice s3a s3n s3c] := rfl
  rw [uS]
  replace hV := hV.below hb
  replace hC := hC.below hb
  replace cP := cells_kept hb _ _ cP
  replace bw := bel_trans bw hb
  have hM := hO.mem (shape_fits9 hs).1
  clear hb hO h1
  have kK := fun W h hV => implKeyOf_ok ((s0a, s0n, s0c), (s1a, s1n, s1c), (s2a, s2n, s2c), (s3a, s3n, s3c)) m W h hs hV
  have kKs := fun W h => specKeyOf_ok ((s0a, s0n, s0c), (s1a, s1n, s1c), (s2a, s2n, s2c), (s3a, s3n, s3c)) m W h hs
  have kB := fun W hV => implVmOf_back hs W hV
  have kI := fun W hC h hV => implIsStuck_is a 3 cap rows ((s0a, s0n, s0c), (s1a, s1n, s1c), (s2a, s2n, s2c), (s3a, s3n, s3c)) m W hC h hV
  have kIs := fun W hC h => specIsStuck_is a 3 cap rows ((s0a, s0n, s0c), (s1a, s1n, s1c), (s2a, s2n, s2c), (s3a, s3n, s3c)) m W hC h
  have kZ := fun (t : S4) W h hV => implKeyOf_ok t zeroV W h zero_shape hV
  have kSm := fun (t : S4) W hA hB hV => implSameVm_is t m ((s0a, s0n, s0c), (s1a, s1n, s1c), (s2a, s2n, s2c), (s3a, s3n, s3c)) m W hA hB hV
  rw [same_self hs] at kSm
  rw [uS] at kK kKs kI kIs kSm
  have hst : stuckC rows m = 0 := by unfold stuckC; rw [HOK.out, hs]; rfl
  rw [hst] at kI kIs
  have hks := keyT_size hs
  have HSF : Hid (V4.fits m) := (shape_fits9 hs).1
  clear uS hs hst
  generalize stuckA rows m = stk at *
  generalize keyT m = key at *
  have hzk := zero_key
  generalize keyT zeroV = zk at *
  have k9 := fun W => implVmOf_size (key ++ ⟨#[48]⟩) W (by rw [ByteArray.size_append]; have : (⟨#[48]⟩ : ByteArray).size = 1 := rfl; omega) (by rw [ByteArray.size_append]; have : (⟨#[48]⟩ : ByteArray).size = 1 := rfl; omega)
  have hadd := fun W => run_string_add_sum (P := Tryd.prog) W key ⟨#[48]⟩ (by have : (⟨#[48]⟩ : ByteArray).size = 1 := rfl; omega)
  have hk15 : ((key.size : Int) == 15) = true := by simp [hks]
  have hkk : (key.toList == key.toList) = true := by simp
  have hss : (stk == stk) = true := by simp
  have ha : Below w2.heap.size w2 (w2.alloc (.cells #[.slice s0a s0n s0c, .slice s1a s1n s1c, .slice s2a s2n s2c, .slice s3a s3n s3c] 29)) := by go_grown
  have cS0 : (w2.alloc (.cells #[.slice s0a s0n s0c, .slice s1a s1n s1c, .slice s2a s2n s2c, .slice s3a s3n s3c] 29)).cell? ⟨w2.heap.size, 0, none⟩ = some (.slice s0a s0n s0c) := by simp [go_sem]
  have cS1 : (w2.alloc (.cells #[.slice s0a s0n s0c, .slice s1a s1n s1c, .slice s2a s2n s2c, .slice s3a s3n s3c] 29)).cell? ⟨w2.heap.size, 1, none⟩ = some (.slice s1a s1n s1c) := by simp [go_sem]
  have cS2 : (w2.alloc (.cells #[.slice s0a s0n s0c, .slice s1a s1n s1c, .slice s2a s2n s2c, .slice s3a s3n s3c] 29)).cell? ⟨w2.heap.size, 2, none⟩ = some (.slice s2a s2n s2c) := by simp [go_sem]
  have cS3 : (w2.alloc (.cells #[.slice s0a s0n s0c, .slice s1a s1n s1c, .slice s2a s2n s2c, .slice s3a s3n s3c] 29)).cell? ⟨w2.heap.size, 3, none⟩ = some (.slice s3a s3n s3c) := by simp [go_sem]
  replace hV := hV.below ha
  replace hC := hC.below ha
  replace cP := cells_kept ha _ _ cP
  replace hM := hM.below ha
  replace bw := bel_trans bw ha
  clear ha
  go_wp2_with fail
  generalize (w2.alloc (.cells #[.slice s0a s0n s0c, .slice s1a s1n s1c, .slice s2a s2n s2c, .slice s3a s3n s3c] 29)) = ws at *
  generalize w2.heap.size = X at *
  refine (kK _ hM hV).mono ?_
  rintro e w3 ⟨rfl, hb⟩
  replace hV := hV.below hb
  replace hC := hC.below hb
  replace cP := cells_kept hb _ _ cP
  replace hM := hM.below hb
  replace cS0 := cells_kept hb _ _ cS0
  replace cS1 := cells_kept hb _ _ cS1
  replace cS2 := cells_kept hb _ _ cS2
  replace cS3 := cells_kept hb _ _ cS3
  replace bw := bel_trans bw hb
  clear hb kK
  go_wp2_with fail
  refine (kKs _ hM).mono ?_
  rintro e w4 ⟨rfl, hb⟩
  replace hV := hV.below hb
  replace hC := hC.below hb
  replace cP := cells_kept hb _ _ cP
  replace hM := hM.below hb
  replace cS0 := cells_kept hb _ _ cS0
  replace cS1 := cells_kept hb _ _ cS1
  replace cS2 := cells_kept hb _ _ cS2
  replace cS3 := cells_kept hb _ _ cS3
  replace bw := bel_trans bw hb
  clear hb kKs
  go_wp2_with fail
  refine (kB _ hV).mono ?_
  rintro e w5 ⟨⟨⟨⟨x0a, x0n, x0c⟩, ⟨x1a, x1n, x1c⟩, ⟨x2a, x2n, x2c⟩, ⟨x3a, x3n, x3c⟩⟩, rfl, hO5⟩, hb⟩
  replace hV := hV.below hb
  replace hC := hC.below hb
  replace cP := cells_kept hb _ _ cP
  replace hM := hM.below hb
  replace cS0 := cells_kept hb _ _ cS0
  replace cS1 := cells_kept hb _ _ cS1
  replace cS2 := cells_kept hb _ _ cS2
  replace cS3 := cells_kept hb _ _ cS3
  replace bw := bel_trans bw hb
  have uX : S4.val ((x0a, x0n, x0c), (x1a, x1n, x1c), (x2a, x2n, x2c), (x3a, x3n, x3c)) = .agg #[.slice x0a x0n x0c, .slice x1a x1n x1c, .slice x2a x2n x2c, .slice x3a x3n x3c] := rfl
  rw [uX]
  have kSX := kSm ((x0a, x0n, x0c), (x1a, x1n, x1c), (x2a, x2n, x2c), (x3a, x3n, x3c))
  rw [uX] at kSX
  have hMX := hO5.mem HSF.out
  clear hb kB hO5 uX kSm
  have ha : Below w5.heap.size w5 (w5.alloc (.cells #[.slice x0a x0n x0c, .slice x1a x1n x1c, .slice x2a x2n x2c, .slice x3a x3n x3c] 29)) := by go_grown
  have cX0 : (w5.alloc (.cells #[.slice x0a x0n x0c, .slice x1a x1n x1c, .slice x2a x2n x2c, .slice x3a x3n x3c] 29)).cell? ⟨w5.heap.size, 0, none⟩ = some (.slice x0a x0n x0c) := by simp [go_sem]
  have cX1 : (w5.alloc (.cells #[.slice x0a x0n x0c, .slice x1a x1n x1c, .slice x2a x2n x2c, .slice x3a x3n x3c] 29)).cell? ⟨w5.heap.size, 1, none⟩ = some (.slice x1a x1n x1c) := by simp [go_sem]
  have cX2 : (w5.alloc (.cells #[.slice x0a x0n x0c, .slice x1a x1n x1c, .slice x2a x2n x2c, .slice x3a x3n x3c] 29)).cell? ⟨w5.heap.size, 2, none⟩ = some (.slice x2a x2n x2c) := by simp [go_sem]
  have cX3 : (w5.alloc (.cells #[.slice x0a x0n x0c, .slice x1a x1n x1c, .slice x2a x2n x2c, .slice x3a x3n x3c] 29)).cell? ⟨w5.heap.size, 3, none⟩ = some (.slice x3a x3n x3c) := by simp [go_sem]
  replace hV := hV.below ha
  replace hC := hC.below ha
  replace cP := cells_kept ha _ _ cP
  replace hM := hM.below ha
  replace cS0 := cells_kept ha _ _ cS0
  replace cS1 := cells_kept ha _ _ cS1
  replace cS2 := cells_kept ha _ _ cS2
  replace cS3 := cells_kept ha _ _ cS3
  replace hMX := hMX.below ha
  replace bw := bel_trans bw ha
  clear ha
  go_wp2_with fail
  generalize (w5.alloc (.cells #[.slice x0a x0n x0c, .slice x1a x1n x1c, .slice x2a x2n x2c, .slice x3a x3n x3c] 29)) = wx at *
  generalize w5.heap.size = Y at *
  refine (k9 _).mono ?_
  rintro e w6 ⟨rfl, hb⟩
  replace hV := hV.below hb
  replace hC := hC.below hb
  replace cP := cells_kept hb _ _ cP
  replace hM := hM.below hb
  replace cS0 := cells_kept hb _ _ cS0
  replace cS1 := cells_kept hb _ _ cS1
  replace cS2 := cells_kept hb _ _ cS2
  replace cS3 := cells_kept hb _ _ cS3
  replace hMX := hMX.below hb
  replace cX0 := cells_kept hb _ _ cX0
  replace cX1 := cells_kept hb _ _ cX1
  replace cX2 := cells_kept hb _ _ cX2
  replace cX3 := cells_kept hb _ _ cX3
  replace bw := bel_trans bw hb
  clear hb k9 hadd
  have ha : Below w6.heap.size w6 (w6.alloc (.cells #[.slice none 0 0, .slice none 0 0, .slice none 0 0, .slice none 0 0] 29)) := by go_grown
  replace hV := hV.below ha
  replace hC := hC.below ha
  replace cP := cells_kept ha _ _ cP
  replace hM := hM.below ha
  replace cS0 := cells_kept ha _ _ cS0
  replace cS1 := cells_kept ha _ _ cS1
  replace cS2 := cells_kept ha _ _ cS2
  replace cS3 := cells_kept ha _ _ cS3
  replace hMX := hMX.below ha
  replace cX0 := cells_kept ha _ _ cX0
  replace cX1 := cells_kept ha _ _ cX1
  replace cX2 := cells_kept ha _ _ cX2
  replace cX3 := cells_kept ha _ _ cX3
  replace bw := bel_trans bw ha
  clear ha
  go_wp2_with fail
  generalize (w6.alloc (.cells #[.slice none 0 0, .slice none 0 0, .slice none 0 0, .slice none 0 0] 29)) = wz at *
  generalize w6.heap.size = ZZ at *
  refine (kI _ hC hM hV).mono ?_
  rintro e w7 ⟨rfl, hb⟩
  replace hV := hV.below hb
  replace hC := hC.below hb
  replace cP := cells_kept hb _ _ cP
  replace hM := hM.below hb
  replace cS0 := cells_kept hb _ _ cS0
  replace cS1 := cells_kept hb _ _ cS1
  replace cS2 := cells_kept hb _ _ cS2
  replace cS3 := cells_kept hb _ _ cS3
  replace hMX := hMX.below hb
  replace cX0 := cells_kept hb _ _ cX0
  replace cX1 := cells_kept hb _ _ cX1
  replace cX2 := cells_kept hb _ _ cX2
  replace cX3 := cells_kept hb _ _ cX3
  replace bw := bel_trans bw hb
  clear hb kI
  go_wp2_with fail
  refine (kIs _ hC hM).mono ?_
  rintro e w8 ⟨rfl, hb⟩
  replace hV := hV.below hb
  replace hC := hC.below hb
  replace cP := cells_kept hb _ _ cP
  replace hM := hM.below hb
  replace cS0 := cells_kept hb _ _ cS0
  replace cS1 := cells_kept hb _ _ cS1
  replace cS2 := cells_kept hb _ _ cS2
  replace cS3 := cells_kept hb _ _ cS3
  replace hMX := hMX.below hb
  replace cX0 := cells_kept hb _ _ cX0
  replace cX1 := cells_kept hb _ _ cX1
  replace cX2 := cells_kept hb _ _ cX2
  replace cX3 := cells_kept hb _ _ cX3
  replace bw := bel_trans bw hb
  clear hb kIs
  go_wp2_with fail
  refine (implNewVm_is _).mono ?_
  rintro e w9 ⟨⟨⟨⟨y0a, y0n, y0c⟩, ⟨y1a, y1n, y1c⟩, ⟨y2a, y2n, y2c⟩, ⟨y3a, y3n, y3c⟩⟩, rfl, hO9⟩, hb⟩
  replace hV := hV.below hb
  replace hC := hC.below hb
  replace cP := cells_kept hb _ _ cP
  replace hM := hM.below hb
  replace cS0 := cells_kept hb _ _ cS0
  replace cS1 := cells_kept hb _ _ cS1
  replace cS2 := cells_kept hb _ _ cS2
  replace cS3 := cells_kept hb _ _ cS3
  replace hMX := hMX.below hb
  replace cX0 := cells_kept hb _ _ cX0
  replace cX1 := cells_kept hb _ _ cX1
  replace cX2 := cells_kept hb _ _ cX2
  replace cX3 := cells_kept hb _ _ cX3
  replace bw := bel_trans bw hb
  have kZ9 := kZ ((y0a, y0n, y0c), (y1a, y1n, y1c), (y2a, y2n, y2c), (y3a, y3n, y3c))
  have uY : S4.val ((y0a, y0n, y0c), (y1a, y1n, y1c), (y2a, y2n, y2c), (y3a, y3n, y3c)) = .agg #[.slice y0a y0n y0c, .slice y1a y1n y1c, .slice y2a y2n y2c, .slice y3a y3n y3c] := rfl
  rw [uY] at kZ9
  rw [uY]
  have hM9 := hO9.mem (shape_fits9 zero_shape).1
  clear hb hO9 uY kZ
  go_wp2_with fail
  refine (kZ9 _ hM9 hV).mono ?_
  rintro e w10 ⟨rfl, hb⟩
  replace hV := hV.below hb
  replace hC := hC.below hb
  replace cP := cells_kept hb _ _ cP
  replace hM := hM.below hb
  replace cS0 := cells_kept hb _ _ cS0
  replace cS1 := cells_kept hb _ _ cS1
  replace cS2 := cells_kept hb _ _ cS2
  replace cS3 := cells_kept hb _ _ cS3
  replace hMX := hMX.below hb
  replace cX0 := cells_kept hb _ _ cX0
  replace cX1 := cells_kept hb _ _ cX1
  replace cX2 := cells_kept hb _ _ cX2
  replace cX3 := cells_kept hb _ _ cX3
  replace bw := bel_trans bw hb
  clear hb kZ9 hM9
  go_wp2_with fail
  refine (kSX _ hMX hM hV).mono ?_
  rintro e w11 ⟨rfl, hb⟩
  replace bw := bel_trans bw hb
  clear hb
  have hz : (zk.toList == [48, 48, 48, 48, 48, 48, 48, 48, 48, 48, 48, 48, 48, 48, 48]) = true := by rw [hzk]; rfl
  go_wp2
  go_ret
  exact ⟨rfl, bw⟩

theorem fnKey_laid {W : World} (h : laidMetH Tryd.prog Rows.fnKeyRow.laid W) : VmShape W := vmShape_of_laid rfl h
theorem fnKey_door_met (os : Os) (args : Array Value) : laidMetH Tryd.prog Rows.fnKeyRow.laid ((World.doorLaid Tryd.prog 400 os).forCall (fun _ _ => 0) ⟨#[], args, []⟩).memory :=
  laidMetH_of_parts3 (fuel := 8) (laidMet_of_run' 8 (by kernel_rfl) (by kernel_rfl)) (by kernel_rfl) (by kernel_rfl)
end Go.Proofs.YtkmnnmgopnoffaaDoor
