/-
  FnStep, part 50 of 50 (FnStepWalk).
-/
import Derived.Test.YtkmnnmgopnoffaaDoorJ48
import Derived.Test.YtkmnnmgopnoffaaDoorJ49
import Derived.Test.YtkmnnmgopnoffaaDoorJ20

/-
  A step turns one thread's place and registers, and one shared place or lock at most: the law's walk.
-/
namespace Go.Proofs.YtkmnnmgopnoffaaDoor
open Go.RowKit
set_option linter.unusedVariables false
set_option linter.unusedSimpArgs false

/-- Whether a number is among the first n. -/
def memN (es : List Int) (k : Int) : Nat → Bool
  | 0 => false
  | n + 1 => memN es k n || (es.getD n 0 == k)
theorem memN_iff (es : List Int) (k : Int) : ∀ n, memN es k n = true ↔ ∃ i, i < n ∧ es.getD i 0 = k
  | 0 => by simp [memN]
  | n + 1 => by
    have ih := memN_iff es k n
    simp only [memN, Bool.or_eq_true, ih, beq_iff_eq]
    constructor
    · rintro (⟨i, hi, e⟩ | e)
      · exact ⟨i, by omega, e⟩
      · exact ⟨n, by omega, e⟩
    · rintro ⟨i, hi, e⟩
      by_cases h : i = n
      · subst h; exact .inr e
      · exact .inl ⟨i, by omega, e⟩
theorem memN_all (es : List Int) (k : Int) : memN es k es.length = decide (k ∈ es) := by
  have h := memN_iff es k es.length
  cases e : memN es k es.length
  · rw [e] at h
    symm
    rw [decide_eq_false_iff_not]
    intro hm
    obtain ⟨i, hi, ei⟩ := List.getElem_of_mem hm
    have := h.2 ⟨i, hi, by simp [List.getD, List.getElem?_eq_getElem hi, ei]⟩
    cases this
  · symm
    rw [decide_eq_true_iff]
    obtain ⟨i, hi, ei⟩ := h.1 e
    rw [← ei, List.getD, List.getElem?_eq_getElem hi, Option.getD_some]
    exact List.getElem_mem hi
/-- What the law asks of a step, in plain words. -/
theorem step_facts {rows : List (List I3)} {m : V4} (hp : progOk rows = true) (hs : shapeOk m = true) {k : Nat} (hk : k < 3) :
    shapeOk (stepZ rows m k) = true ∧ memN (enabA rows m) k (enabA rows m).length = (stepC rows m k == 0) ∧ doneA rows m k = (stepC rows m k == 10) ∧ diffN (stepZ rows m k).2.1 m.2.1 4 + diffN (stepZ rows m k).2.2.1 m.2.2.1 2 ≤ 1 ∧
    (∀ i : Nat, i < 3 → i ≠ k → (stepZ rows m k).1.getD i 0 = m.1.getD i 0) ∧ (stepC rows m k = 0 → m.1.getD k 0 < (stepZ rows m k).1.getD k 0) := by
  have hk3 : (0 : Int) ≤ (k : Int) ∧ (k : Int) < 3 := by omega
  have he : enabA rows m = enabM rows m 3 := by unfold enabA; rw [hp, hs]; rfl
  have hm : memN (enabA rows m) k (enabA rows m).length = canM rows m k := by
    rw [memN_all, he]
    have h9 := mem_enab (rows := rows) (m := m) (k := k) 3
    cases hc : canM rows m k
    · rw [decide_eq_false_iff_not, h9, hc]
      simp
    · rw [decide_eq_true_iff, h9]
      exact ⟨hk, hc⟩
  rw [hm]
  unfold stepZ stepC doneA
  simp only [hp, hs, Bool.and_self, if_true, hk3, and_self, Int.toNat_natCast]
  rcases Bool.eq_false_or_eq_true (canM rows m k) with hc | hc
  case inr =>
    have hz := diffN_same m.2.1 4
    have hz2 := diffN_same m.2.2.1 2
    rcases Bool.eq_false_or_eq_true (doneM rows m k) with hd | hd
    · simp [hc, hd, hs, hz, hz2]
    · simp [hc, hd, hs, hz, hz2]
  case inl =>
    obtain ⟨hd, _⟩ := can_parts hc
    simp only [hc, hd, if_true]
    refine ⟨shape_step hp hs hk hd, by simp, by simp, stepM_shared m _ k, fun i _ hne => stepM_other m _ hne, fun _ => stepM_own hp hs hk hd⟩


set_option maxHeartbeats 2500000 in
set_option maxRecDepth 100000 in
theorem fnStep_walk (a0 : Option Addr) (len0 cap0 : Nat) (z0 : List Int) (a1 : Option Addr) (len1 cap1 : Nat) (z1 : List Int) (w : World) (h0 : IsRow .u8 w a0 len0 cap0 z0) (h1 : IsRow .u8 w a1 len1 cap1 z1) (hV : VmShape w) :
    Calls Tryd.prog 3 #[.slice a0 len0 cap0, .slice a1 len1 cap1] w fun e w' => e = .returned (.bool true) ∧ Below w.heap.size w w' := by
  have m0 := h0.len_le
  have m1 := h1.len_le
  unfold maxLen at m0 m1
  by_cases hb0 : 1048576 < len0
  · go_enter Tryd.func3, Tryd.ntmps3
    go_wp2
    go_ret
    exact ⟨rfl, Below.refl _ _⟩
  by_cases hb1 : 1048576 < len1
  · go_enter Tryd.func3, Tryd.ntmps3
    go_wp2
    go_ret
    exact ⟨rfl, Below.refl _ _⟩
  have l0 : len0 ≤ 1048576 := by omega
  have l1 : len1 ≤ 1048576 := by omega
  clear hb0 hb1 m0 m1
  have bw : Below w.heap.size w w := Below.refl _ _
  go_enter Tryd.func3, Tryd.ntmps3
  go_wp2_with fail
  refine (programDrawn_any _ _ _ z0 _ h0 l0).mono ?_
  rintro e w1 ⟨⟨v, rows, hok, rfl, ho⟩, hb⟩
  have h3 := (progOk_parts hok).1
  obtain ⟨a, cap, hv⟩ := ho.slice
  rw [h3] at hv
  subst hv
  have hC := ho.codes (fun r hr x hx => okI_fits ((progOk_parts hok).2 r hr |>.2 x hx))
  clear ho h0
  replace h1 := h1.below hb
  replace hV := hV.below hb
  replace bw := bel_trans bw hb
  clear hb h3
  have HOK : Hid (progOk rows = true) := hok
  clear hok
  have ha : Below w1.heap.size w1 (w1.alloc (.cells #[.slice a 3 cap] 25)) := by go_grown
  have cP : (w1.alloc (.cells #[.slice a 3 cap] 25)).cell? ⟨w1.heap.size, 0, none⟩ = some (.slice a 3 cap) := by simp [go_sem]
  replace h1 := h1.below ha
  replace hV := hV.below ha
  replace hC := hC.below ha
  replace bw := bel_trans bw ha
  clear ha
  go_wp2_with fail
  generalize (w1.alloc (.cells #[.slice a 3 cap] 25)) = wp at *
  generalize w1.heap.size = P at *
  refine (vmDrawn_any _ _ _ z1 a cap rows _ h1 l1 hC HOK.out).mono ?_
  rintro e w2 ⟨⟨⟨⟨s0a, s0n, s0c⟩, ⟨s1a, s1n, s1c⟩, ⟨s2a, s2n, s2c⟩, ⟨s3a, s3n, s3c⟩⟩, m, rfl, hO, hs⟩, hb⟩
  have uS : S4.val ((s0a, s0n, s0c), (s1a, s1n, s1c), (s2a, s2n, s2c), (s3a, s3n, s3c)) = .agg #[.slice s0a s0n s0c, .slice s1a s1n s1c, .slice s2a s2n s2c, .slice s3a s3n s3c] := rfl
  rw [uS]
  replace h1 := h1.below hb
  replace hV := hV.below hb
  replace hC := hC.below hb
  replace cP := cells_kept hb _ _ cP
  replace bw := bel_trans bw hb
  have hM := hO.mem (shape_fits9 hs).1
  have HS : Hid (shapeOk m = true) := hs
  clear hb hO hs
  have ha : Below w2.heap.size w2 (w2.alloc (.cells #[.slice s0a s0n s0c, .slice s1a s1n s1c, .slice s2a s2n s2c, .slice s3a s3n s3c] 29)) := by go_grown
  have cS0 : (w2.alloc (.cells #[.slice s0a s0n s0c, .slice s1a s1n s1c, .slice s2a s2n s2c, .slice s3a s3n s3c] 29)).cell? ⟨w2.heap.size, 0, none⟩ = some (.slice s0a s0n s0c) := by simp [go_sem]
  have cS1 : (w2.alloc (.cells #[.slice s0a s0n s0c, .slice s1a s1n s1c, .slice s2a s2n s2c, .slice s3a s3n s3c] 29)).cell? ⟨w2.heap.size, 1, none⟩ = some (.slice s1a s1n s1c) := by simp [go_sem]
  have cS2 : (w2.alloc (.cells #[.slice s0a s0n s0c, .slice s1a s1n s1c, .slice s2a s2n s2c, .slice s3a s3n s3c] 29)).cell? ⟨w2.heap.size, 2, none⟩ = some (.slice s2a s2n s2c) := by simp [go_sem]
  have cS3 : (w2.alloc (.cells #[.slice s0a s0n s0c, .slice s1a s1n s1c, .slice s2a s2n s2c, .slice s3a s3n s3c] 29)).cell? ⟨w2.heap.size, 3, none⟩ = some (.slice s3a s3n s3c) := by simp [go_sem]
  replace h1 := h1.below ha
  replace hV := hV.below ha
  replace hC := hC.below ha
  replace cP := cells_kept ha _ _ cP
  replace hM := hM.below ha
  replace bw := bel_trans bw ha
  clear ha
  go_wp2_with fail
  generalize (w2.alloc (.cells #[.slice s0a s0n s0c, .slice s1a s1n s1c, .slice s2a s2n s2c, .slice s3a s3n s3c] 29)) = ws at *
  generalize w2.heap.size = X at *
  refine (at_any a1 len1 cap1 z1 0 3 _ h1 l1 (by omega) (by omega) (by omega)).mono ?_
  rintro e w3 ⟨⟨k, hk, rfl⟩, d, rfl⟩
  have hb : Below ws.heap.size ws (ws.drewN d) := below_drewN (Below.refl _ _) d
  replace h1 := h1.below hb
  replace hV := hV.below hb
  replace hC := hC.below hb
  replace cP := cells_kept hb _ _ cP
  replace hM := hM.below hb
  replace cS0 := cells_kept hb _ _ cS0
  replace cS1 := cells_kept hb _ _ cS1
  replace cS2 := cells_kept hb _ _ cS2
  replace cS3 := cells_kept hb _ _ cS3
  replace bw := bel_trans bw hb
  clear hb h1
  generalize ws.drewN d = w3 at *
  have hk3 : k < 3 := by omega
  clear hk
  obtain ⟨fS, fM, fD, fN, fO, fG⟩ := step_facts HOK.out HS.out hk3
  have kI := fun W hC h hV => implStepVm_is a 3 cap rows ((s0a, s0n, s0c), (s1a, s1n, s1c), (s2a, s2n, s2c), (s3a, s3n, s3c)) m k W hC h hV
  have kS := fun W hC h => specStepVm_is a 3 cap rows ((s0a, s0n, s0c), (s1a, s1n, s1c), (s2a, s2n, s2c), (s3a, s3n, s3c)) m k W hC h
  have kE := fun W hC h hV => implEnabledOf_is a 3 cap rows ((s0a, s0n, s0c), (s1a, s1n, s1c), (s2a, s2n, s2c), (s3a, s3n, s3c)) m W hC h hV
  have kD := fun W hC h hV => implIsDone_is a 3 cap rows ((s0a, s0n, s0c), (s1a, s1n, s1c), (s2a, s2n, s2c), (s3a, s3n, s3c)) m k W hC h hV
  rw [uS] at kI kS kE kD
  have hst : stuckC rows m = 0 := by unfold stuckC; rw [HOK.out, HS.out]; rfl
  have hdc : doneC rows m k = 0 := by unfold doneC; rw [HOK.out, HS.out]; simp; omega
  rw [hst] at kE
  rw [hdc] at kD
  rw [fD] at kD
  clear uS hst hdc fD
  have lE := enabA_len rows m
  generalize stepZ rows m k = z at *
  generalize stepF rows m k = fd at *
  generalize stepC rows m k = cd at *
  generalize enabA rows m = es at *
  have HZ : Hid (shapeOk z = true) := fS
  have HM : Hid (memN es k es.length = (cd == 0)) := fM
  clear fS fM
  have kSm := fun (t t' : S4) W hA hB hV => implSameVm_is t z t' z W hA hB hV
  rw [same_self HZ.out] at kSm
  have kOK := fun (t : S4) W hC h hV => implVmOK_is a 3 cap rows t z W hC h hV
  rw [HOK.out, HZ.out] at kOK
  have HF : Hid (V4.fits z) := (shape_fits9 HZ.out).1
  go_wp2_with fail
  refine (kI _ hC hM hV).mono ?_
  rintro e w4 ⟨⟨⟨⟨x0a, x0n, x0c⟩, ⟨x1a, x1n, x1c⟩, ⟨x2a, x2n, x2c⟩, ⟨x3a, x3n, x3c⟩⟩, rfl, hO4⟩, hb⟩
  replace hV := hV.below hb
  replace hC := hC.below hb
  replace cP := cells_kept hb _ _ cP
  replace hM := hM.below hb
  replace cS0 := cells_kept hb _ _ cS0
  replace cS1 := cells_kept hb _ _ cS1
  replace cS2 := cells_kept hb _ _ cS2
  replace cS3 := cells_kept hb _ _ cS3
  replace bw := bel_trans bw hb
  have uX : S4.val ((x0a, x0n, x0c), (x1a, x1n, x1c), (x2a, x2n, x2c), (x3a, x3n, x3c)) = .agg #[.slice x0a x0n x0c, .slice x1a x1n x1c, .slice x2a x2n x2c, .slice x3a x3n x3c] := rfl
  rw [uX]
  have hX := hO4.mem HF.out
  clear hb kI hO4
  have ha : Below w4.heap.size w4 (w4.alloc (.cells #[.slice x0a x0n x0c, .slice x1a x1n x1c, .slice x2a x2n x2c, .slice x3a x3n x3c] 29)) := by go_grown
  have cX0 : (w4.alloc (.cells #[.slice x0a x0n x0c, .slice x1a x1n x1c, .slice x2a x2n x2c, .slice x3a x3n x3c] 29)).cell? ⟨w4.heap.size, 0, none⟩ = some (.slice x0a x0n x0c) := by simp [go_sem]
  have cX1 : (w4.alloc (.cells #[.slice x0a x0n x0c, .slice x1a x1n x1c, .slice x2a x2n x2c, .slice x3a x3n x3c] 29)).cell? ⟨w4.heap.size, 1, none⟩ = some (.slice x1a x1n x1c) := by simp [go_sem]
  have cX2 : (w4.alloc (.cells #[.slice x0a x0n x0c, .slice x1a x1n x1c, .slice x2a x2n x2c, .slice x3a x3n x3c] 29)).cell? ⟨w4.heap.size, 2, none⟩ = some (.slice x2a x2n x2c) := by simp [go_sem]
  have cX3 : (w4.alloc (.cells #[.slice x0a x0n x0c, .slice x1a x1n x1c, .slice x2a x2n x2c, .slice x3a x3n x3c] 29)).cell? ⟨w4.heap.size, 3, none⟩ = some (.slice x3a x3n x3c) := by simp [go_sem]
  replace hV := hV.below ha
  replace hC := hC.below ha
  replace cP := cells_kept ha _ _ cP
  replace hM := hM.below ha
  replace cS0 := cells_kept ha _ _ cS0
  replace cS1 := cells_kept ha _ _ cS1
  replace cS2 := cells_kept ha _ _ cS2
  replace cS3 := cells_kept ha _ _ cS3
  replace hX := hX.below ha
  replace bw := bel_trans bw ha
  clear ha
  go_wp2_with fail
  generalize (w4.alloc (.cells #[.slice x0a x0n x0c, .slice x1a x1n x1c, .slice x2a x2n x2c, .slice x3a x3n x3c] 29)) = wx at *
  generalize w4.heap.size = Y at *
  refine (kS _ hC hM).mono ?_
  rintro e w5 ⟨⟨⟨⟨y0a, y0n, y0c⟩, ⟨y1a, y1n, y1c⟩, ⟨y2a, y2n, y2c⟩, ⟨y3a, y3n, y3c⟩⟩, rfl, hO5⟩, hb⟩
  replace hV := hV.below hb
  replace hC := hC.below hb
  replace cP := cells_kept hb _ _ cP
  replace hM := hM.below hb
  replace cS0 := cells_kept hb _ _ cS0
  replace cS1 := cells_kept hb _ _ cS1
  replace cS2 := cells_kept hb _ _ cS2
  replace cS3 := cells_kept hb _ _ cS3
  replace hX := hX.below hb
  replace cX0 := cells_kept hb _ _ cX0
  replace cX1 := cells_kept hb _ _ cX1
  replace cX2 := cells_kept hb _ _ cX2
  replace cX3 := cells_kept hb _ _ cX3
  replace bw := bel_trans bw hb
  have uY : S4.val ((y0a, y0n, y0c), (y1a, y1n, y1c), (y2a, y2n, y2c), (y3a, y3n, y3c)) = .agg #[.slice y0a y0n y0c, .slice y1a y1n y1c, .slice y2a y2n y2c, .slice y3a y3n y3c] := rfl
  rw [uY]
  have hY := hO5.mem HF.out
  have kSX := kSm ((x0a, x0n, x0c), (x1a, x1n, x1c), (x2a, x2n, x2c), (x3a, x3n, x3c)) ((y0a, y0n, y0c), (y1a, y1n, y1c), (y2a, y2n, y2c), (y3a, y3n, y3c))
  rw [uX, uY] at kSX
  have kOX := kOK ((x0a, x0n, x0c), (x1a, x1n, x1c), (x2a, x2n, x2c), (x3a, x3n, x3c))
  rw [uX] at kOX
  clear hb kS hO5 uX uY kSm kOK
  have ha : Below w5.heap.size w5 (w5.alloc (.cells #[.slice y0a y0n y0c, .slice y1a y1n y1c, .slice y2a y2n y2c, .slice y3a y3n y3c] 29)) := by go_grown
  have cY0 : (w5.alloc (.cells #[.slice y0a y0n y0c, .slice y1a y1n y1c, .slice y2a y2n y2c, .slice y3a y3n y3c] 29)).cell? ⟨w5.heap.size, 0, none⟩ = some (.slice y0a y0n y0c) := by simp [go_sem]
  have cY1 : (w5.alloc (.cells #[.slice y0a y0n y0c, .slice y1a y1n y1c, .slice y2a y2n y2c, .slice y3a y3n y3c] 29)).cell? ⟨w5.heap.size, 1, none⟩ = some (.slice y1a y1n y1c) := by simp [go_sem]
  have cY2 : (w5.alloc (.cells #[.slice y0a y0n y0c, .slice y1a y1n y1c, .slice y2a y2n y2c, .slice y3a y3n y3c] 29)).cell? ⟨w5.heap.size, 2, none⟩ = some (.slice y2a y2n y2c) := by simp [go_sem]
  have cY3 : (w5.alloc (.cells #[.slice y0a y0n y0c, .slice y1a y1n y1c, .slice y2a y2n y2c, .slice y3a y3n y3c] 29)).cell? ⟨w5.heap.size, 3, none⟩ = some (.slice y3a y3n y3c) := by simp [go_sem]
  replace hV := hV.below ha
  replace hC := hC.below ha
  replace cP := cells_kept ha _ _ cP
  replace hM := hM.below ha
  replace cS0 := cells_kept ha _ _ cS0
  replace cS1 := cells_kept ha _ _ cS1
  replace cS2 := cells_kept ha _ _ cS2
  replace cS3 := cells_kept ha _ _ cS3
  replace hX := hX.below ha
  replace cX0 := cells_kept ha _ _ cX0
  replace cX1 := cells_kept ha _ _ cX1
  replace cX2 := cells_kept ha _ _ cX2
  replace cX3 := cells_kept ha _ _ cX3
  replace hY := hY.below ha
  replace bw := bel_trans bw ha
  clear ha
  go_wp2_with fail
  generalize (w5.alloc (.cells #[.slice y0a y0n y0c, .slice y1a y1n y1c, .slice y2a y2n y2c, .slice y3a y3n y3c] 29)) = wy at *
  generalize w5.heap.size = Z9 at *
  refine (kE _ hC hM hV).mono ?_
  rintro e w6 ⟨⟨⟨la, ll, lc⟩, rfl, hO6⟩, hb⟩
  replace hV := hV.below hb
  replace hC := hC.below hb
  replace cP := cells_kept hb _ _ cP
  replace hM := hM.below hb
  replace cS0 := cells_kept hb _ _ cS0
  replace cS1 := cells_kept hb _ _ cS1
  replace cS2 := cells_kept hb _ _ cS2
  replace cS3 := cells_kept hb _ _ cS3
  replace hX := hX.below hb
  replace cX0 := cells_kept hb _ _ cX0
  replace cX1 := cells_kept hb _ _ cX1
  replace cX2 := cells_kept hb _ _ cX2
  replace cX3 := cells_kept hb _ _ cX3
  replace hY := hY.below hb
  replace cY0 := cells_kept hb _ _ cY0
  replace cY1 := cells_kept hb _ _ cY1
  replace cY2 := cells_kept hb _ _ cY2
  replace cY3 := cells_kept hb _ _ cY3
  replace bw := bel_trans bw hb
  have hL := hO6.ints
  have hll : es.length = ll := hL.1
  clear hb kE hO6
  simp only at hL ⊢
  have hcan0 : memN es k 0 = false := rfl
  go_wp2_with fail
  go_loopw [16, 17] (fun sc si wr => ∃ i : Nat, i ≤ ll ∧ si = .int .i64 i ∧ sc = .bool (memN es k i) ∧ wr = w6) (fun _ si _ => ll - (intOf si).toNat)
  case atStart => exact ⟨0, by omega, rfl, rfl, rfl⟩
  case round =>
    obtain ⟨i, hi, rfl, rfl, rfl⟩ := hrel
    by_cases hlt : i < ll
    · have hlti : (i : Int) < (ll : Int) := by omega
      have hi0 : (0 : Int) ≤ (i : Int) := by omega
      obtain ⟨_, _, _, hcase⟩ := hL
      rcases hcase with e0 | ⟨b, off, rfl, hbl, hc⟩
      · omega
      have hci := hc i hlt
      have hst : memN es k (i + 1) = (memN es k i || (es.getD i 0 == (k : Int))) := rfl
      have HST : Hid (memN es k (i + 1) = (memN es k i || (es.getD i 0 == (k : Int)))) := hst
      clear hst hc hbl
      generalize es.getD i 0 = ee at *
      cases hmi : memN es k i
      · rw [hmi] at HST
        have HS1 : Hid (memN es k (i + 1) = (ee == (k : Int))) := by rw [Hid, HST.out]; simp
        clear HST hmi
        go_wp2
        go_roundw
        case rel => exact ⟨i + 1, by omega, by go_num, by rw [HS1.out], trivial⟩
        case measure => simp [intOf]; omega
      · rw [hmi] at HST
        have HS1 : Hid (memN es k (i + 1) = true) := by rw [Hid, HST.out]; simp
        clear HST hmi
        go_wp2
        go_roundw
        case rel => exact ⟨i + 1, by omega, by go_num, by rw [HS1.out], trivial⟩
        case measure => simp [intOf]; omega
    · obtain rfl : i = ll := by omega
      rw [← hll, HM.out]
      clear hL hll HM lE hcan0

      have hcc : (cd != cd) = false := by simp
      have hff : (fd != fd) = false := by simp
      have hq0 : ((cd == 0) != (cd == 0)) = false := by simp
      have hq1 : ((cd == 10) != (cd == 10)) = false := by simp
      go_wp2_with fail
      refine (kD _ hC hM hV).mono ?_
      rintro e w7 ⟨rfl, hb⟩
      replace hV := hV.below hb
      replace hC := hC.below hb
      replace cP := cells_kept hb _ _ cP
      replace hM := hM.below hb
      replace cS0 := cells_kept hb _ _ cS0
      replace cS1 := cells_kept hb _ _ cS1
      replace cS2 := cells_kept hb _ _ cS2
      replace cS3 := cells_kept hb _ _ cS3
      replace hX := hX.below hb
      replace cX0 := cells_kept hb _ _ cX0
      replace cX1 := cells_kept hb _ _ cX1
      replace cX2 := cells_kept hb _ _ cX2
      replace cX3 := cells_kept hb _ _ cX3
      replace hY := hY.below hb
      replace cY0 := cells_kept hb _ _ cY0
      replace cY1 := cells_kept hb _ _ cY1
      replace cY2 := cells_kept hb _ _ cY2
      replace cY3 := cells_kept hb _ _ cY3
      replace bw := bel_trans bw hb
      clear hb kD
      go_wp2_with fail
      refine (kSX _ hX hY hV).mono ?_
      rintro e w8 ⟨rfl, hb⟩
      clear hY cY0 cY1 cY2 cY3
      replace hV := hV.below hb
      replace hC := hC.below hb
      replace cP := cells_kept hb _ _ cP
      replace hM := hM.below hb
      replace cS0 := cells_kept hb _ _ cS0
      replace cS1 := cells_kept hb _ _ cS1
      replace cS2 := cells_kept hb _ _ cS2
      replace cS3 := cells_kept hb _ _ cS3
      replace hX := hX.below hb
      replace cX0 := cells_kept hb _ _ cX0
      replace cX1 := cells_kept hb _ _ cX1
      replace cX2 := cells_kept hb _ _ cX2
      replace cX3 := cells_kept hb _ _ cX3
      replace bw := bel_trans bw hb
      clear hb kSX
      obtain ⟨⟨j0, _⟩, ⟨j1, _⟩, ⟨j2, _⟩, ⟨j3, _⟩⟩ := hX
      have hX : Hid (Vmem w8 ((x0a, x0n, x0c), (x1a, x1n, x1c), (x2a, x2n, x2c), (x3a, x3n, x3c)) z) := ⟨⟨j0, HF.out.1⟩, ⟨j1, HF.out.2.1⟩, ⟨j2, HF.out.2.2.1⟩, ⟨j3, HF.out.2.2.2⟩⟩
      obtain ⟨⟨i0, _⟩, ⟨i1, _⟩, ⟨i2, _⟩, ⟨i3, _⟩⟩ := hM
      obtain ⟨lz0, lz1, lz2, _⟩ := shape_parts HZ.out
      obtain ⟨lm0, lm1, lm2, _⟩ := shape_parts HS.out
      simp only at i0 i1 i2 i3 j0 j1 j2 j3
      obtain ⟨en0, xb0, xo0, ea0⟩ := some_of_ints j0 lz0 (by omega)
      obtain ⟨en1, xb1, xo1, ea1⟩ := some_of_ints j1 lz1 (by omega)
      obtain ⟨en2, xb2, xo2, ea2⟩ := some_of_ints j2 lz2 (by omega)
      obtain ⟨fn0, sb0, so0, fa0⟩ := some_of_ints i0 lm0 (by omega)
      obtain ⟨fn1, sb1, so1, fa1⟩ := some_of_ints i1 lm1 (by omega)
      obtain ⟨fn2, sb2, so2, fa2⟩ := some_of_ints i2 lm2 (by omega)
      subst en0 en1 en2 fn0 fn1 fn2 ea0 ea1 ea2 fa0 fa1 fa2
      have X0 : Hid (∀ t, t < 3 → w8.cell? ⟨xb0, xo0 + t, none⟩ = some (.int .i64 (z.1.getD t 0))) := fun t ht => ints_at9 j0 ht
      have X1 : Hid (∀ t, t < 4 → w8.cell? ⟨xb1, xo1 + t, none⟩ = some (.int .i64 (z.2.1.getD t 0))) := fun t ht => ints_at9 j1 ht
      have X2 : Hid (∀ t, t < 2 → w8.cell? ⟨xb2, xo2 + t, none⟩ = some (.int .i64 (z.2.2.1.getD t 0))) := fun t ht => ints_at9 j2 ht
      have S0 : Hid (∀ t, t < 3 → w8.cell? ⟨sb0, so0 + t, none⟩ = some (.int .i64 (m.1.getD t 0))) := fun t ht => ints_at9 i0 ht
      have S1 : Hid (∀ t, t < 4 → w8.cell? ⟨sb1, so1 + t, none⟩ = some (.int .i64 (m.2.1.getD t 0))) := fun t ht => ints_at9 i1 ht
      have S2 : Hid (∀ t, t < 2 → w8.cell? ⟨sb2, so2 + t, none⟩ = some (.int .i64 (m.2.2.1.getD t 0))) := fun t ht => ints_at9 i2 ht
      clear i0 i1 i2 i3 j0 j1 j2 j3 lz0 lz1 lz2 lm0 lm1 lm2
      have FO : Hid (∀ (i : Nat), i < 3 → i ≠ k → z.1.getD i 0 = m.1.getD i 0) := fO
      have FG : Hid (cd = 0 → m.1.getD k 0 < z.1.getD k 0) := fG
      have FN : Hid (diffN z.2.1 m.2.1 4 + diffN z.2.2.1 m.2.2.1 2 ≤ 1) := fN
      clear fO fG fN
      have E1 : Hid (VmShape w8) := hV
      have E2 : Hid (Codes w8 a 3 cap rows) := hC
      have E4 : Hid (Below w.heap.size w w8) := bw
      have E5 : Hid (_) := kOX
      have CP : Hid (_) := cP
      have CX0 : Hid (_) := cX0
      have CX1 : Hid (_) := cX1
      have CX2 : Hid (_) := cX2
      have CX3 : Hid (_) := cX3
      have CS0 : Hid (_) := cS0
      have CS1 : Hid (_) := cS1
      have CS2 : Hid (_) := cS2
      clear hV hC bw kOX cP cX0 cX1 cX2 cX3 cS0 cS1 cS2 cS3 HOK HS HZ HF hff hq0 hq1 hcc
      go_wp2_with fail
      go_loopw [20, 21] (fun sn si wr => ∃ i d : Nat, i ≤ 4 ∧ si = .int .i64 i ∧ sn = .int .i64 (diffN z.2.1 m.2.1 i : Nat) ∧ wr = w8.drewN d) (fun _ si _ => 4 - (intOf si).toNat)
      case atStart => exact ⟨0, 0, by omega, rfl, rfl, rfl⟩
      case round =>
        obtain ⟨i, d, hi, rfl, rfl, rfl⟩ := hrel
        by_cases hlt : i < 4
        · have hlti : (i : Int) < 4 := by omega
          have hi0 : (0 : Int) ≤ (i : Int) := by omega
          have cx := CX1.out
          have cs := CS1.out
          have hx := X1.out i hlt
          have hs := S1.out i hlt
          have hle := diffN_le z.2.1 m.2.1 i
          by_cases hE : z.2.1.getD i 0 = m.2.1.getD i 0
          · have HD : Hid (diffN z.2.1 m.2.1 (i + 1) = diffN z.2.1 m.2.1 i) := by rw [Hid]; simp only [diffN, hE, if_true, Nat.add_zero]
            rw [hE] at hx
            clear hE
            generalize m.2.1.getD i 0 = ee at *
            have hne : (ee != ee) = false := by simp
            go_wp2_with fail
            go_quiet (fail)
            go_wp2
            go_roundw
            case rel => exact ⟨i + 1, d + nq, by omega, by go_num, by rw [HD.out], rfl⟩
            case measure => simp [intOf]; omega
          · have HD : Hid (diffN z.2.1 m.2.1 (i + 1) = diffN z.2.1 m.2.1 i + 1) := by rw [Hid]; simp only [diffN, hE, if_false]
            generalize m.2.1.getD i 0 = ee at *
            generalize z.2.1.getD i 0 = zz at *
            have hne : (zz != ee) = true := by simp [hE]
            generalize diffN z.2.1 m.2.1 i = dd at *
            go_wp2_with fail
            go_quiet (fail)
            go_wp2
            go_roundw
            case rel => exact ⟨i + 1, d + nq, by omega, by go_num, by first | (rw [HD.out]; done) | (rw [HD.out]; go_num), rfl⟩
            case measure => simp [intOf]; omega
        · obtain rfl : i = 4 := by omega
          have hd4 := diffN_le z.2.1 m.2.1 4
          obtain ⟨D1, hD1⟩ : ∃ D1, D1 = diffN z.2.1 m.2.1 4 := ⟨_, rfl⟩
          rw [← hD1] at hd4 FN
          try rw [← hD1]
          clear hD1
          go_wp2_with fail
          go_loopw [20, 22] (fun sn si wr => ∃ i d : Nat, i ≤ 2 ∧ si = .int .i64 i ∧ sn = .int .i64 (D1 + diffN z.2.2.1 m.2.2.1 i : Nat) ∧ wr = w8.drewN d) (fun _ si _ => 2 - (intOf si).toNat)
          case atStart => exact ⟨0, d, by omega, rfl, rfl, rfl⟩
          case round =>
            obtain ⟨i, d, hi, rfl, rfl, rfl⟩ := hrel
            by_cases hlt : i < 2
            · have hlti : (i : Int) < 2 := by omega
              have hi0 : (0 : Int) ≤ (i : Int) := by omega
              have cx := CX2.out
              have cs := CS2.out
              have hx := X2.out i hlt
              have hs := S2.out i hlt
              have hle := diffN_le z.2.2.1 m.2.2.1 i
              by_cases hE : z.2.2.1.getD i 0 = m.2.2.1.getD i 0
              · have HD : Hid (diffN z.2.2.1 m.2.2.1 (i + 1) = diffN z.2.2.1 m.2.2.1 i) := by rw [Hid]; simp only [diffN, hE, if_true, Nat.add_zero]
                rw [hE] at hx
                clear hE
                generalize m.2.2.1.getD i 0 = ee at *
                have hne : (ee != ee) = false := by simp
                generalize diffN z.2.2.1 m.2.2.1 i = dd at *
                go_wp2_with fail
                go_quiet (fail)
                go_wp2
                go_roundw
                case rel => exact ⟨i + 1, d + nq, by omega, by go_num, by first | (rw [HD.out]; done) | (rw [HD.out]; go_num), rfl⟩
                case measure => simp [intOf]; omega
              · have HD : Hid (diffN z.2.2.1 m.2.2.1 (i + 1) = diffN z.2.2.1 m.2.2.1 i + 1) := by rw [Hid]; simp only [diffN, hE, if_false]
                generalize m.2.2.1.getD i 0 = ee at *
                generalize z.2.2.1.getD i 0 = zz at *
                have hne : (zz != ee) = true := by simp [hE]
                generalize diffN z.2.2.1 m.2.2.1 i = dd at *
                go_wp2_with fail
                go_quiet (fail)
                go_wp2
                go_roundw
                case rel => exact ⟨i + 1, d + nq, by omega, by go_num, by first | (rw [HD.out]; done) | (rw [HD.out]; go_num), rfl⟩
                case measure => simp [intOf]; omega
            · obtain rfl : i = 2 := by omega
              have hn1 : D1 + diffN z.2.2.1 m.2.2.1 2 ≤ 1 := FN.out
              generalize diffN z.2.2.1 m.2.2.1 2 = D2 at *
              clear FN
              go_wp2_with fail
              go_loopw [23] (fun si wr => ∃ i d : Nat, i ≤ 3 ∧ si = .int .i64 i ∧ wr = w8.drewN d) (fun si _ => 3 - (intOf si).toNat)
              case atStart => exact ⟨0, d, by omega, rfl, rfl⟩
              case round =>
                obtain ⟨i, d, hi, rfl, rfl⟩ := hrel
                by_cases hlt : i < 3
                · have hlti : (i : Int) < 3 := by omega
                  have hi0 : (0 : Int) ≤ (i : Int) := by omega
                  have cx := CX0.out
                  have cs := CS0.out
                  have hx := X0.out i hlt
                  have hs := S0.out i hlt
                  by_cases hik : i = k
                  · have hik1 : ((i : Int) != (k : Int)) = false := by simp [hik]
                    have hik2 : ((i : Int) == (k : Int)) = true := by simp [hik]
                    by_cases hc0 : cd = 0
                    · have hlt2 : m.1.getD i 0 < z.1.getD i 0 := by rw [hik]; exact FG.out hc0
                      have hc1 : (cd == 0) = true := by simp [hc0]
                      generalize m.1.getD i 0 = ee at *
                      generalize z.1.getD i 0 = zz at *
                      have hle : decide (zz ≤ ee) = false := by simp; omega
                      clear hc0 hik FO FG
                      go_wp2_with fail
                      go_quiet (fail)
                      go_wp2
                      go_roundw
                      case rel => exact ⟨i + 1, d + nq, by omega, by go_num, rfl⟩
                      case measure => simp [intOf]; omega
                    · have hc1 : (cd == 0) = false := by simp [hc0]
                      generalize m.1.getD i 0 = ee at *
                      generalize z.1.getD i 0 = zz at *
                      clear hc0 hik FO FG
                      go_wp2_with fail
                      go_quiet (fail)
                      go_wp2
                      go_roundw
                      case rel => exact ⟨i + 1, d + nq, by omega, by go_num, rfl⟩
                      case measure => simp [intOf]; omega
                  · have hik1 : ((i : Int) != (k : Int)) = true := by simp; omega
                    have hik2 : ((i : Int) == (k : Int)) = false := by simp; omega
                    rw [FO.out i hlt hik] at hx
                    clear hik FO FG
                    generalize m.1.getD i 0 = ee at *
                    have hne : (ee != ee) = false := by simp
                    go_wp2_with fail
                    go_quiet (fail)
                    go_wp2
                    go_roundw
                    case rel => exact ⟨i + 1, d + nq, by omega, by go_num, rfl⟩
                    case measure => simp [intOf]; omega
                · obtain rfl : i = 3 := by omega
                  have hle1 : decide (((D1 + D2 : Nat) : Int) ≤ 1) = true := by simp; omega
                  have hb9 : Below w8.heap.size w8 (w8.drewN d) := below_drewN (Below.refl _ _) d
                  have hX9 := (hX.out).below hb9
                  have hC9 := E2.out.below hb9
                  have hV9 := E1.out.below hb9
                  have bw9 := bel_trans E4.out hb9
                  have cP := cells_kept hb9 _ _ CP.out
                  have cX0 := cells_kept hb9 _ _ CX0.out
                  have cX1 := cells_kept hb9 _ _ CX1.out
                  have cX2 := cells_kept hb9 _ _ CX2.out
                  have cX3 := cells_kept hb9 _ _ CX3.out
                  have kOX := E5.out
                  clear hb9 hX X0 X1 X2 S0 S1 S2 E1 E2 E4 E5 CP CX0 CX1 CX2 CX3 CS0 CS1 CS2
                  generalize w8.drewN d = w9 at *
                  go_wp2_with fail
                  refine (kOX _ hC9 hX9 hV9).mono ?_
                  rintro e w10 ⟨rfl, hb⟩
                  replace bw9 := bel_trans bw9 hb
                  clear hb kOX
                  go_wp2
                  go_ret
                  exact ⟨rfl, bw9⟩

theorem fnStep_laid {W : World} (h : laidMetH Tryd.prog Rows.fnStepRow.laid W) : VmShape W := vmShape_of_laid rfl h
theorem fnStep_door_met (os : Os) (args : Array Value) : laidMetH Tryd.prog Rows.fnStepRow.laid ((World.doorLaid Tryd.prog 400 os).forCall (fun _ _ => 0) ⟨#[], args, []⟩).memory :=
  laidMetH_of_parts3 (fuel := 8) (laidMet_of_run' 8 (by kernel_rfl) (by kernel_rfl)) (by kernel_rfl) (by kernel_rfl)
end Go.Proofs.YtkmnnmgopnoffaaDoor
