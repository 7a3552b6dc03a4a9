/-
  Joined: NxtW.
-/
import Derived.Test.YtdojjmkpelgcaaaDoorN41
import Derived.Test.YtdojjmkpelgcaaaDoorN43
import Derived.Test.YtdojjmkpelgcaaaDoorN44
import Derived.Test.YtdojjmkpelgcaaaDoorN46
import Derived.Test.YtdojjmkpelgcaaaDoorN47

namespace Go.Proofs.YtdojjmkpelgcaaaDoor
set_option maxRecDepth 100000
open Go.RowKit
set_option linter.unusedVariables false
set_option linter.unusedSimpArgs false

theorem blk_rangeN {w : World} {g t : Nat} {cs : List Value} (h : Blk w g t cs) : w.rangeAt g 0 cs := fun j v hj => by rw [Nat.zero_add, h.cell]; exact hj
def CutE (u W : World) (z : I4) (cd : Int) (s8 s9 : Value) : Prop := ∃ Y, s8 = .pointer (some ⟨Y, 0, none⟩) ∧ s9 = .int .i64 cd ∧ Blk W Y 33 [.int .i64 z.1, .int .i64 z.2.1, .int .i64 z.2.2.1, .int .i64 z.2.2.2] ∧ Below u.heap.size u W

set_option maxHeartbeats 4000000 in
theorem fnExactNextEvent_of (a0 : Option Addr) (n0 c0 : Nat) (r0 : List (List I3)) (s : S4) (m : V4) (k : Int) (z : I4) (cd : Int) (w : World) (h0 : Codes w a0 n0 c0 r0) (h1 : Vmem w s m) (hG : VmShape w)
  (kS : ∀ (a0 : Option Addr) (n0 c0 : Nat) (s : S4) (w : World), Codes w a0 n0 c0 r0 → Vmem w s m → Calls Tryd.prog 13 #[.agg #[.slice a0 n0 c0], s.val, .int .i64 k] w fun e w' => e = .returned (.tuple #[I4.val z, .int .i64 cd]) ∧ Below w.heap.size w w')
  (kI : ∀ (a0 : Option Addr) (n0 c0 : Nat) (s : S4) (w : World), Codes w a0 n0 c0 r0 → Vmem w s m → VmShape w → Calls Tryd.prog 12 #[.agg #[.slice a0 n0 c0], s.val, .int .i64 k] w fun e w' => e = .returned (.tuple #[I4.val z, .int .i64 cd]) ∧ Below w.heap.size w w') :
  Calls Tryd.prog 6 #[.agg #[.slice a0 n0 c0], s.val, .int .i64 k] w fun e w' => e = .returned (.bool true) ∧ Below w.heap.size w w' := by
 have kT := fun W h => toProgram_copy a0 n0 c0 r0 W h
 have fm := h1.fits
 have kZ := fun left W h => szVm_any s m left W h
 have kV := fun W h => toVm_own s m W h
 have hcd : (cd != cd) = false := by simp
 obtain ⟨z0, z1, z2, z3⟩ := z
 unfold I4.val at kS kI
 simp only at kS kI
 have hev := fun W => eqEvent_same (z0, z1, z2, z3) W
 unfold I4.val at hev
 simp only at hev
 have kQ := fun (t : S4) (W : World) (h : Vmem W t m) (h9 : Vmem W t m) => True.intro
 have hM := fun (W : World) (b : Below w.heap.size w W) => h1.below b
 obtain ⟨⟨t0a, t0n, t0c⟩, ⟨t1a, t1n, t1c⟩, ⟨t2a, t2n, t2c⟩, ⟨t3a, t3n, t3c⟩⟩ := s
 have ut : S4.val ((t0a, t0n, t0c), (t1a, t1n, t1c), (t2a, t2n, t2c), (t3a, t3n, t3c)) = .agg #[.slice t0a t0n t0c, .slice t1a t1n t1c, .slice t2a t2n t2c, .slice t3a t3n t3c] := rfl
 rw [ut] at kZ kV ⊢
 clear ut kQ
 have bw : Below w.heap.size w ((w.alloc (.cells #[.slice a0 n0 c0] 42)).alloc (.cells #[.slice t0a t0n t0c, .slice t1a t1n t1c, .slice t2a t2n t2c, .slice t3a t3n t3c] 55)) := by go_grown
 have p0 : Blk ((w.alloc (.cells #[.slice a0 n0 c0] 42)).alloc (.cells #[.slice t0a t0n t0c, .slice t1a t1n t1c, .slice t2a t2n t2c, .slice t3a t3n t3c] 55)) w.heap.size 42 [.slice a0 n0 c0] := blkOld _ (blkAt _ _ _ rfl)
 have p1 : Blk ((w.alloc (.cells #[.slice a0 n0 c0] 42)).alloc (.cells #[.slice t0a t0n t0c, .slice t1a t1n t1c, .slice t2a t2n t2c, .slice t3a t3n t3c] 55)) (w.heap.size + 1) 55 [.slice t0a t0n t0c, .slice t1a t1n t1c, .slice t2a t2n t2c, .slice t3a t3n t3c] := blkAt _ _ _ (by simp)
 go_enter Tryd.func6, Tryd.ntmps6
 go_wp2_with fail
 generalize ((w.alloc (.cells #[.slice a0 n0 c0] 42)).alloc (.cells #[.slice t0a t0n t0c, .slice t1a t1n t1c, .slice t2a t2n t2c, .slice t3a t3n t3c] 55)) = U at *
 go_wp2_with (first | refine wpList_load_blk rfl 42 _ rfl w.heap.size rfl p0 _ Tryd.underlying42 rfl (by kernel_rfl) ?_ | refine wpList_load_blk rfl 55 _ rfl (w.heap.size + 1) rfl p1 _ Tryd.underlying55 rfl (by kernel_rfl) ?_)
 have hz := sizeLeft_or r0 1048576 (by omega)
 have hbd := size_bounds (rows := r0) (left := 1048576) (by omega)
 refine (szProgram_less a0 n0 c0 r0 1048576 _ (h0.below bw) (by omega) (by omega)).mono ?_
 rintro e wz ⟨rfl, hb⟩
 generalize sizeLeft 1048576 r0 = zl at hz hbd
 replace bw := bel_trans bw hb
 replace p0 := p0.below hb
 replace p1 := p1.below hb
 clear hb
 rcases hz with rfl | ⟨yl, xl⟩
 ·clear hbd
  go_wp2
  go_ret
  exact ⟨rfl, bw⟩
 obtain ⟨hr, hr'⟩ := hbd yl (by omega)
 have hlen : n0 ≤ 1048576 := by rw [← h0.1]; exact hr
 replace kT := fun W h => kT W h hlen (fun t _ => hr' t)
 clear hbd hr hr' hlen
 have hn0 : decide (zl < 0) = false := by simp; omega
 go_wp2_with (first | refine wpList_load_blk rfl 42 _ rfl w.heap.size rfl p0 _ Tryd.underlying42 rfl (by kernel_rfl) ?_ | refine wpList_load_blk rfl 55 _ rfl (w.heap.size + 1) rfl p1 _ Tryd.underlying55 rfl (by kernel_rfl) ?_)
 refine (kZ zl _ (hM _ bw) (by omega) (by omega)).mono ?_
 rintro e wv ⟨⟨zv, rfl, hz⟩, hb⟩
 replace bw := bel_trans bw hb
 replace p0 := p0.below hb
 replace p1 := p1.below hb
 clear hb kZ
 rcases hz with rfl | ⟨yv, xv, l0, l1, l2, l3⟩
 ·go_wp2
  go_ret
  exact ⟨rfl, bw⟩
 simp only at l0 l1 l2 l3
 replace kV := fun W h => kV W h (by omega) (by omega) (by omega) (by omega)
 clear l0 l1 l2 l3
 have hn1 : decide (zv < 0) = false := by simp; omega
 clear yl xl yv xv hn0
 go_wp2_with fail
 have ub : Below wv.heap.size wv wv := Below.refl _ _
 go_cut [8, 9] from 14 (fun s8 s9 W => CutE wv W (z0, z1, z2, z3) cd s8 s9)
 case first =>
  have hdr : Below wv.heap.size wv wv.drew := by go_grown
  refine wp_region_held_drew (S := (fun w' => w'.rangeAt w.heap.size 0 [.slice a0 n0 c0] ∧ w'.rangeAt (w.heap.size + 1) 0 [.slice t0a t0n t0c, .slice t1a t1n t1c, .slice t2a t2n t2c, .slice t3a t3n t3c])) (by kernel_rfl) ⟨blk_rangeN p0, blk_rangeN p1⟩ (fun hS0 => ?_)
  refine wpAnyH_take (i := 0) (oi := { dst := some 25, op := _, type := _, pos := _, after := _, guard := _ }) (v := .agg ([.slice a0 n0 c0]).toArray) rfl (by kernel_rfl) (by kernel_rfl) (by kernel_rfl) (fun _ _ _ h => h) (yieldsIf_load_mid (by rfl) 42 _ rfl w.heap.size 0 rfl [.slice a0 n0 c0] _ (fun _ h => h.1) Tryd.underlying42 rfl (by kernel_rfl)) (by assumption) ?_
  simp only [Act.put, tka, tkb, tkc]
  refine wpAnyH_take (i := 2) (oi := { dst := some 27, op := _, type := _, pos := _, after := _, guard := _ }) (v := .agg ([.slice t0a t0n t0c, .slice t1a t1n t1c, .slice t2a t2n t2c, .slice t3a t3n t3c]).toArray) rfl (by kernel_rfl) (by kernel_rfl) (by kernel_rfl) (fun _ _ _ h => h) (yieldsIf_load_mid (by rfl) 55 _ rfl (w.heap.size + 1) 0 rfl [.slice t0a t0n t0c, .slice t1a t1n t1c, .slice t2a t2n t2c, .slice t3a t3n t3c] _ (fun _ h => h.2) Tryd.underlying55 rfl (by kernel_rfl)) (by assumption) ?_
  simp only [Act.put, tka, tkb, tkc]
  refine tkm 4 29 (.int .i64 k) ?_
  have q0 := p0.below hdr
  have q1 := p1.below hdr
  have bz := bel_trans bw hdr
  have bu := hdr
  clear hdr
  generalize wv.drew = V at *
  refine wpAnyH_ready (rs := [1, 9]) (by kernel_rfl) (by simp) ?_
  refine AllReadyH.cons (o := { dst := some 26, op := _, type := _, pos := _, after := _, guard := _ }) rfl (fun K hK => ?_) (AllReadyH.cons (o := { dst := some 8, op := _, type := _, pos := _, after := _, guard := _ }) rfl (fun K hK => ?_) AllReadyH.nil)
  ·go_simp
   refine (kT V (h0.below bz)).mono ?_
   rintro e V1 ⟨rfl, hO1, hb⟩
   have hA := hO1.codes
   clear hO1
   generalize V.heap.size + 3 = ga at hA ⊢
   replace q0 := q0.below hb
   replace q1 := q1.below hb
   replace bz := bel_trans bz hb
   replace bu := bel_trans bu hb
   go_wp2_with fail
   refine hK.out _ _ ⟨blk_rangeN q0, blk_rangeN q1⟩ (fun hS1 => ?_)
   clear hK hb
   try simp only [Act.put, tka, tkb, tkc]
   refine wpAnyH_ready (rs := [3, 9]) (by kernel_rfl) (by simp) ?_
   refine AllReadyH.cons (o := { dst := some 28, op := _, type := _, pos := _, after := _, guard := _ }) rfl (fun K hK => ?_) (AllReadyH.cons (o := { dst := some 8, op := _, type := _, pos := _, after := _, guard := _ }) rfl (fun K hK => ?_) AllReadyH.nil)
   ·go_simp
    refine (kV V1 (hM V1 bz)).mono ?_
    rintro e V2 ⟨⟨⟨⟨x0a, x0n, x0c⟩, ⟨x1a, x1n, x1c⟩, ⟨x2a, x2n, x2c⟩, ⟨x3a, x3n, x3c⟩⟩, rfl, hO2⟩, hb⟩
    have ux : S4.val ((x0a, x0n, x0c), (x1a, x1n, x1c), (x2a, x2n, x2c), (x3a, x3n, x3c)) = .agg #[.slice x0a x0n x0c, .slice x1a x1n x1c, .slice x2a x2n x2c, .slice x3a x3n x3c] := rfl
    rw [ux]
    replace hA := hA.below hb
    have hX := hO2.mem fm
    clear hO2
    replace q0 := q0.below hb
    replace q1 := q1.below hb
    replace bz := bel_trans bz hb
    replace bu := bel_trans bu hb
    go_wp2_with fail
    refine hK.out _ _ ⟨blk_rangeN q0, blk_rangeN q1⟩ (fun hS2 => ?_)
    clear hK hb
    try simp only [Act.put, tka, tkb, tkc]
    refine wpAnyH_ready (rs := [5, 9]) (by kernel_rfl) (by simp) ?_
    refine AllReadyH.cons (o := { dst := some 30, op := _, type := _, pos := _, after := _, guard := _ }) rfl (fun K hK => ?_) (AllReadyH.cons (o := { dst := some 8, op := _, type := _, pos := _, after := _, guard := _ }) rfl (fun K hK => ?_) AllReadyH.nil)
    ·have kSx := kS _ _ _ ((x0a, x0n, x0c), (x1a, x1n, x1c), (x2a, x2n, x2c), (x3a, x3n, x3c)) V2 hA hX
     rw [ux] at kSx
     go_simp
     refine kSx.mono ?_
     rintro e V3 ⟨rfl, hb⟩
     replace q0 := q0.below hb
     replace q1 := q1.below hb
     replace bz := bel_trans bz hb
     replace bu := bel_trans bu hb
     go_wp2_with fail
     refine hK.out _ _ ⟨blk_rangeN q0, blk_rangeN q1⟩ (fun hS3 => ?_)
     clear hK hb kSx
     try simp only [Act.put, tka, tkb, tkc]
     refine tkm 6 24 (.tuple #[.agg #[.int .i64 z0, .int .i64 z1, .int .i64 z2, .int .i64 z3], .int .i64 cd]) ?_
     refine tkm 7 31 (.agg #[.int .i64 z0, .int .i64 z1, .int .i64 z2, .int .i64 z3]) ?_
     refine tkm 8 32 (.int .i64 cd) ?_
     refine tkr 9 8 (fun K hK => ?_)
     have hb : Below V3.heap.size V3 (V3.alloc (.cells #[.int .i64 0, .int .i64 0, .int .i64 0, .int .i64 0] 33)) := by go_grown
     have pY : Blk (V3.alloc (.cells #[.int .i64 0, .int .i64 0, .int .i64 0, .int .i64 0] 33)) V3.heap.size 33 [.int .i64 0, .int .i64 0, .int .i64 0, .int .i64 0] := blkAt _ _ _ rfl
     have hYb : wv.heap.size ≤ V3.heap.size := bu.size
     replace q0 := q0.below hb
     replace q1 := q1.below hb
     replace bz := bel_trans bz hb
     replace bu := bel_trans bu hb
     go_simp
     refine hK.out _ _ ⟨blk_rangeN q0, blk_rangeN q1⟩ (fun hS4 => ?_)
     clear hK hb
     generalize (V3.alloc (.cells #[.int .i64 0, .int .i64 0, .int .i64 0, .int .i64 0] 33)) = V4 at *
     obtain ⟨Y, hY⟩ : ∃ Y, Y = V3.heap.size := ⟨_, rfl⟩
     rw [← hY] at pY hYb ⊢
     clear hY
     try simp only [Act.put, tka, tkb, tkc]
     refine tkz 10 (fun K hK => ?_)
     refine step_store_blkD rfl 33 _ _ rfl Y [.int .i64 z0, .int .i64 z1, .int .i64 z2, .int .i64 z3] rfl rfl pY (by kernel_rfl) rfl rfl ?_
     intro V9 pY9 g9
     have hYP : Y ≠ w.heap.size := blk_ne pY q0 (by decide)
     have hYS : Y ≠ (w.heap.size + 1) := blk_ne pY q1 (by decide)
     replace q0 := q0.kept g9 (by simp only [ne_eq, Option.some.injEq]; omega)
     replace q1 := q1.kept g9 (by simp only [ne_eq, Option.some.injEq]; omega)
     replace bu := bu.grown g9 bu.size (fun q e => by cases e; exact hYb)
     refine hK.out _ _ ⟨blk_rangeN q0, blk_rangeN q1⟩ (fun hS5 => ?_)
     clear hK
     try simp only [Act.put, tka, tkb, tkc]
     refine tkm 11 9 (.int .i64 cd) ?_
     refine wpAnyH_done (by kernel_rfl) ?_ _
     go_wp2_with fail
     go_meet
     case rel => exact ⟨Y, rfl, rfl, pY9.out, bu⟩
    ·have hb : Below V2.heap.size V2 (V2.alloc (.cells #[.int .i64 0, .int .i64 0, .int .i64 0, .int .i64 0] 33)) := by go_grown
     have pY : Blk (V2.alloc (.cells #[.int .i64 0, .int .i64 0, .int .i64 0, .int .i64 0] 33)) V2.heap.size 33 [.int .i64 0, .int .i64 0, .int .i64 0, .int .i64 0] := blkAt _ _ _ rfl
     have hYb : wv.heap.size ≤ V2.heap.size := bu.size
     replace q0 := q0.below hb
     replace q1 := q1.below hb
     replace bz := bel_trans bz hb
     replace bu := bel_trans bu hb
     replace hA := hA.below hb
     replace hX := hX.below hb
     go_simp
     refine hK.out _ _ ⟨blk_rangeN q0, blk_rangeN q1⟩ (fun hS4 => ?_)
     clear hK hb
     generalize (V2.alloc (.cells #[.int .i64 0, .int .i64 0, .int .i64 0, .int .i64 0] 33)) = V3 at *
     obtain ⟨Y, hY⟩ : ∃ Y, Y = V2.heap.size := ⟨_, rfl⟩
     rw [← hY] at pY hYb ⊢
     clear hY
     try simp only [Act.put, tka, tkb, tkc]
     refine tkr 5 30 (fun K hK => ?_)
     have kSx := kS _ _ _ ((x0a, x0n, x0c), (x1a, x1n, x1c), (x2a, x2n, x2c), (x3a, x3n, x3c)) V3 hA hX
     rw [ux] at kSx
     go_simp
     refine kSx.mono ?_
     rintro e V4 ⟨rfl, hb⟩
     replace q0 := q0.below hb
     replace q1 := q1.below hb
     replace bz := bel_trans bz hb
     replace bu := bel_trans bu hb
     replace pY := pY.below hb
     go_wp2_with fail
     refine hK.out _ _ ⟨blk_rangeN q0, blk_rangeN q1⟩ (fun hS3 => ?_)
     clear hK hb kSx
     try simp only [Act.put, tka, tkb, tkc]
     refine tkm 6 24 (.tuple #[.agg #[.int .i64 z0, .int .i64 z1, .int .i64 z2, .int .i64 z3], .int .i64 cd]) ?_
     refine tkm 7 31 (.agg #[.int .i64 z0, .int .i64 z1, .int .i64 z2, .int .i64 z3]) ?_
     refine tkm 8 32 (.int .i64 cd) ?_
     refine tkz 10 (fun K hK => ?_)
     refine step_store_blkD rfl 33 _ _ rfl Y [.int .i64 z0, .int .i64 z1, .int .i64 z2, .int .i64 z3] rfl rfl pY (by kernel_rfl) rfl rfl ?_
     intro V9 pY9 g9
     have hYP : Y ≠ w.heap.size := blk_ne pY q0 (by decide)
     have hYS : Y ≠ (w.heap.size + 1) := blk_ne pY q1 (by decide)
     replace q0 := q0.kept g9 (by simp only [ne_eq, Option.some.injEq]; omega)
     replace q1 := q1.kept g9 (by simp only [ne_eq, Option.some.injEq]; omega)
     replace bu := bu.grown g9 bu.size (fun q e => by cases e; exact hYb)
     refine hK.out _ _ ⟨blk_rangeN q0, blk_rangeN q1⟩ (fun hS5 => ?_)
     clear hK
     try simp only [Act.put, tka, tkb, tkc]
     refine tkm 11 9 (.int .i64 cd) ?_
     refine wpAnyH_done (by kernel_rfl) ?_ _
     go_wp2_with fail
     go_meet
     case rel => exact ⟨Y, rfl, rfl, pY9.out, bu⟩
   ·have hb : Below V1.heap.size V1 (V1.alloc (.cells #[.int .i64 0, .int .i64 0, .int .i64 0, .int .i64 0] 33)) := by go_grown
    have pY : Blk (V1.alloc (.cells #[.int .i64 0, .int .i64 0, .int .i64 0, .int .i64 0] 33)) V1.heap.size 33 [.int .i64 0, .int .i64 0, .int .i64 0, .int .i64 0] := blkAt _ _ _ rfl
    have hYb : wv.heap.size ≤ V1.heap.size := bu.size
    replace q0 := q0.below hb
    replace q1 := q1.below hb
    replace bz := bel_trans bz hb
    replace bu := bel_trans bu hb
    replace hA := hA.below hb
    go_simp
    refine hK.out _ _ ⟨blk_rangeN q0, blk_rangeN q1⟩ (fun hS4 => ?_)
    clear hK hb
    generalize (V1.alloc (.cells #[.int .i64 0, .int .i64 0, .int .i64 0, .int .i64 0] 33)) = V2 at *
    obtain ⟨Y, hY⟩ : ∃ Y, Y = V1.heap.size := ⟨_, rfl⟩
    rw [← hY] at pY hYb ⊢
    clear hY
    try simp only [Act.put, tka, tkb, tkc]
    refine tkr 3 28 (fun K hK => ?_)
    go_simp
    refine (kV V2 (hM V2 bz)).mono ?_
    rintro e V3 ⟨⟨⟨⟨x0a, x0n, x0c⟩, ⟨x1a, x1n, x1c⟩, ⟨x2a, x2n, x2c⟩, ⟨x3a, x3n, x3c⟩⟩, rfl, hO2⟩, hb⟩
    have ux : S4.val ((x0a, x0n, x0c), (x1a, x1n, x1c), (x2a, x2n, x2c), (x3a, x3n, x3c)) = .agg #[.slice x0a x0n x0c, .slice x1a x1n x1c, .slice x2a x2n x2c, .slice x3a x3n x3c] := rfl
    rw [ux]
    replace hA := hA.below hb
    have hX := hO2.mem fm
    clear hO2
    replace q0 := q0.below hb
    replace q1 := q1.below hb
    replace bz := bel_trans bz hb
    replace bu := bel_trans bu hb
    replace pY := pY.below hb
    go_wp2_with fail
    refine hK.out _ _ ⟨blk_rangeN q0, blk_rangeN q1⟩ (fun hS2 => ?_)
    clear hK hb
    try simp only [Act.put, tka, tkb, tkc]
    refine tkr 5 30 (fun K hK => ?_)
    have kSx := kS _ _ _ ((x0a, x0n, x0c), (x1a, x1n, x1c), (x2a, x2n, x2c), (x3a, x3n, x3c)) V3 hA hX
    rw [ux] at kSx
    go_simp
    refine kSx.mono ?_
    rintro e V4 ⟨rfl, hb⟩
    replace q0 := q0.below hb
    replace q1 := q1.below hb
    replace bz := bel_trans bz hb
    replace bu := bel_trans bu hb
    replace pY := pY.below hb
    go_wp2_with fail
    refine hK.out _ _ ⟨blk_rangeN q0, blk_rangeN q1⟩ (fun hS3 => ?_)
    clear hK hb kSx
    try simp only [Act.put, tka, tkb, tkc]
    refine tkm 6 24 (.tuple #[.agg #[.int .i64 z0, .int .i64 z1, .int .i64 z2, .int .i64 z3], .int .i64 cd]) ?_
    refine tkm 7 31 (.agg #[.int .i64 z0, .int .i64 z1, .int .i64 z2, .int .i64 z3]) ?_
    refine tkm 8 32 (.int .i64 cd) ?_
    refine tkz 10 (fun K hK => ?_)
    refine step_store_blkD rfl 33 _ _ rfl Y [.int .i64 z0, .int .i64 z1, .int .i64 z2, .int .i64 z3] rfl rfl pY (by kernel_rfl) rfl rfl ?_
    intro V9 pY9 g9
    have hYP : Y ≠ w.heap.size := blk_ne pY q0 (by decide)
    have hYS : Y ≠ (w.heap.size + 1) := blk_ne pY q1 (by decide)
    replace q0 := q0.kept g9 (by simp only [ne_eq, Option.some.injEq]; omega)
    replace q1 := q1.kept g9 (by simp only [ne_eq, Option.some.injEq]; omega)
    replace bu := bu.grown g9 bu.size (fun q e => by cases e; exact hYb)
    refine hK.out _ _ ⟨blk_rangeN q0, blk_rangeN q1⟩ (fun hS5 => ?_)
    clear hK
    try simp only [Act.put, tka, tkb, tkc]
    refine tkm 11 9 (.int .i64 cd) ?_
    refine wpAnyH_done (by kernel_rfl) ?_ _
    go_wp2_with fail
    go_meet
    case rel => exact ⟨Y, rfl, rfl, pY9.out, bu⟩
  ·have hb : Below V.heap.size V (V.alloc (.cells #[.int .i64 0, .int .i64 0, .int .i64 0, .int .i64 0] 33)) := by go_grown
   have pY : Blk (V.alloc (.cells #[.int .i64 0, .int .i64 0, .int .i64 0, .int .i64 0] 33)) V.heap.size 33 [.int .i64 0, .int .i64 0, .int .i64 0, .int .i64 0] := blkAt _ _ _ rfl
   have hYb : wv.heap.size ≤ V.heap.size := bu.size
   replace q0 := q0.below hb
   replace q1 := q1.below hb
   replace bz := bel_trans bz hb
   replace bu := bel_trans bu hb
   go_simp
   refine hK.out _ _ ⟨blk_rangeN q0, blk_rangeN q1⟩ (fun hS4 => ?_)
   clear hK hb
   generalize (V.alloc (.cells #[.int .i64 0, .int .i64 0, .int .i64 0, .int .i64 0] 33)) = V1 at *
   obtain ⟨Y, hY⟩ : ∃ Y, Y = V.heap.size := ⟨_, rfl⟩
   rw [← hY] at pY hYb ⊢
   clear hY
   try simp only [Act.put, tka, tkb, tkc]
   refine tkr 1 26 (fun K hK => ?_)
   go_simp
   refine (kT V1 (h0.below bz)).mono ?_
   rintro e V2 ⟨rfl, hO1, hb⟩
   have hA := hO1.codes
   clear hO1
   generalize V1.heap.size + 3 = ga at hA ⊢
   replace q0 := q0.below hb
   replace q1 := q1.below hb
   replace bz := bel_trans bz hb
   replace bu := bel_trans bu hb
   replace pY := pY.below hb
   go_wp2_with fail
   refine hK.out _ _ ⟨blk_rangeN q0, blk_rangeN q1⟩ (fun hS1 => ?_)
   clear hK hb
   try simp only [Act.put, tka, tkb, tkc]
   refine tkr 3 28 (fun K hK => ?_)
   go_simp
   refine (kV V2 (hM V2 bz)).mono ?_
   rintro e V3 ⟨⟨⟨⟨x0a, x0n, x0c⟩, ⟨x1a, x1n, x1c⟩, ⟨x2a, x2n, x2c⟩, ⟨x3a, x3n, x3c⟩⟩, rfl, hO2⟩, hb⟩
   have ux : S4.val ((x0a, x0n, x0c), (x1a, x1n, x1c), (x2a, x2n, x2c), (x3a, x3n, x3c)) = .agg #[.slice x0a x0n x0c, .slice x1a x1n x1c, .slice x2a x2n x2c, .slice x3a x3n x3c] := rfl
   rw [ux]
   replace hA := hA.below hb
   have hX := hO2.mem fm
   clear hO2
   replace q0 := q0.below hb
   replace q1 := q1.below hb
   replace bz := bel_trans bz hb
   replace bu := bel_trans bu hb
   replace pY := pY.below hb
   go_wp2_with fail
   refine hK.out _ _ ⟨blk_rangeN q0, blk_rangeN q1⟩ (fun hS2 => ?_)
   clear hK hb
   try simp only [Act.put, tka, tkb, tkc]
   refine tkr 5 30 (fun K hK => ?_)
   have kSx := kS _ _ _ ((x0a, x0n, x0c), (x1a, x1n, x1c), (x2a, x2n, x2c), (x3a, x3n, x3c)) V3 hA hX
   rw [ux] at kSx
   go_simp
   refine kSx.mono ?_
   rintro e V4 ⟨rfl, hb⟩
   replace q0 := q0.below hb
   replace q1 := q1.below hb
   replace bz := bel_trans bz hb
   replace bu := bel_trans bu hb
   replace pY := pY.below hb
   go_wp2_with fail
   refine hK.out _ _ ⟨blk_rangeN q0, blk_rangeN q1⟩ (fun hS3 => ?_)
   clear hK hb kSx
   try simp only [Act.put, tka, tkb, tkc]
   refine tkm 6 24 (.tuple #[.agg #[.int .i64 z0, .int .i64 z1, .int .i64 z2, .int .i64 z3], .int .i64 cd]) ?_
   refine tkm 7 31 (.agg #[.int .i64 z0, .int .i64 z1, .int .i64 z2, .int .i64 z3]) ?_
   refine tkm 8 32 (.int .i64 cd) ?_
   refine tkz 10 (fun K hK => ?_)
   refine step_store_blkD rfl 33 _ _ rfl Y [.int .i64 z0, .int .i64 z1, .int .i64 z2, .int .i64 z3] rfl rfl pY (by kernel_rfl) rfl rfl ?_
   intro V9 pY9 g9
   have hYP : Y ≠ w.heap.size := blk_ne pY q0 (by decide)
   have hYS : Y ≠ (w.heap.size + 1) := blk_ne pY q1 (by decide)
   replace q0 := q0.kept g9 (by simp only [ne_eq, Option.some.injEq]; omega)
   replace q1 := q1.kept g9 (by simp only [ne_eq, Option.some.injEq]; omega)
   replace bu := bu.grown g9 bu.size (fun q e => by cases e; exact hYb)
   refine hK.out _ _ ⟨blk_rangeN q0, blk_rangeN q1⟩ (fun hS5 => ?_)
   clear hK
   try simp only [Act.put, tka, tkb, tkc]
   refine tkm 11 9 (.int .i64 cd) ?_
   refine wpAnyH_done (by kernel_rfl) ?_ _
   go_wp2_with fail
   go_meet
   case rel => exact ⟨Y, rfl, rfl, pY9.out, bu⟩
 obtain ⟨Y, rfl, rfl, pY, hb⟩ := hcut
 clear ub kS
 replace bw := bel_trans bw hb
 replace p0 := p0.below hb
 replace p1 := p1.below hb
 simp only at pY
 clear hb
 go_wp2_with (first | refine wpList_load_blk rfl 42 _ rfl w.heap.size rfl p0 _ Tryd.underlying42 rfl (by kernel_rfl) ?_ | refine wpList_load_blk rfl 55 _ rfl (w.heap.size + 1) rfl p1 _ Tryd.underlying55 rfl (by kernel_rfl) ?_)
 refine (kT _ (h0.below bw)).mono ?_
 rintro e wx ⟨rfl, hO, hb⟩
 have hX := hO.codes
 clear hO
 generalize wc.heap.size + 3 = gx at hX ⊢
 replace bw := bel_trans bw hb
 replace p0 := p0.below hb
 replace p1 := p1.below hb
 replace pY := pY.below hb
 clear hb
 have ha : Below wx.heap.size wx (wx.alloc (.cells #[.slice (some ⟨gx, 0, none⟩) n0 n0] 25)) := by go_grown
 have pX : Blk (wx.alloc (.cells #[.slice (some ⟨gx, 0, none⟩) n0 n0] 25)) wx.heap.size 25 [.slice (some ⟨gx, 0, none⟩) n0 n0] := blkAt _ _ _ rfl
 replace hX := hX.below ha
 replace bw := bel_trans bw ha
 replace p0 := p0.below ha
 replace p1 := p1.below ha
 replace pY := pY.below ha
 clear ha
 go_wp2_with (first | refine wpList_load_blk rfl 42 _ rfl w.heap.size rfl p0 _ Tryd.underlying42 rfl (by kernel_rfl) ?_ | refine wpList_load_blk rfl 55 _ rfl (w.heap.size + 1) rfl p1 _ Tryd.underlying55 rfl (by kernel_rfl) ?_)
 generalize (wx.alloc (.cells #[.slice (some ⟨gx, 0, none⟩) n0 n0] 25)) = wy at *
 generalize wx.heap.size = GX at *
 refine (kV _ (hM _ bw)).mono ?_
 rintro e u1 ⟨⟨⟨⟨x0a, x0n, x0c⟩, ⟨x1a, x1n, x1c⟩, ⟨x2a, x2n, x2c⟩, ⟨x3a, x3n, x3c⟩⟩, rfl, hO⟩, hb⟩
 have ux : S4.val ((x0a, x0n, x0c), (x1a, x1n, x1c), (x2a, x2n, x2c), (x3a, x3n, x3c)) = .agg #[.slice x0a x0n x0c, .slice x1a x1n x1c, .slice x2a x2n x2c, .slice x3a x3n x3c] := rfl
 rw [ux]
 have hQ := hO.mem fm
 clear hO
 replace bw := bel_trans bw hb
 replace p0 := p0.below hb
 replace p1 := p1.below hb
 replace pY := pY.below hb
 replace pX := pX.below hb
 replace hX := hX.below hb
 clear hb
 have pN := Blk.new u1 29 [.slice none 0 0, .slice none 0 0, .slice none 0 0, .slice none 0 0]
 have ha : Below u1.heap.size u1 (u1.alloc (.cells #[.slice none 0 0, .slice none 0 0, .slice none 0 0, .slice none 0 0] 29)) := by go_grown
 go_wp2_with (refine wpList_store_blk rfl 29 _ _ rfl u1.heap.size [.slice x0a x0n x0c, .slice x1a x1n x1c, .slice x2a x2n x2c, .slice x3a x3n x3c] rfl rfl pN (by kernel_rfl) rfl rfl ?_)
 intro u2 p2 g2
 have pQ := p2.out
 have hb : Below u1.heap.size u1 u2 := ha.grown g2 ha.size (fun q e => by cases e; exact Nat.le_refl _)
 replace hQ := hQ.below hb
 replace bw := bel_trans bw hb
 replace p0 := p0.below hb
 replace p1 := p1.below hb
 replace pY := pY.below hb
 replace pX := pX.below hb
 replace hX := hX.below hb
 clear p2 g2 ha pN hb
 generalize u1.heap.size = GQ at *
 have kIx := kI _ _ _ ((x0a, x0n, x0c), (x1a, x1n, x1c), (x2a, x2n, x2c), (x3a, x3n, x3c)) u2 hX hQ (hG.below bw)
 rw [ux] at kIx
 go_wp2_with (first | refine wpList_load_blk rfl 25 _ rfl GX rfl pX _ Tryd.underlying25 rfl (by kernel_rfl) ?_ | refine wpList_load_blk rfl 29 _ rfl GQ rfl pQ _ Tryd.underlying29 rfl (by kernel_rfl) ?_)
 refine kIx.mono ?_
 rintro e u3 ⟨rfl, hb⟩
 replace bw := bel_trans bw hb
 replace p0 := p0.below hb
 replace p1 := p1.below hb
 replace pY := pY.below hb
 replace pX := pX.below hb
 replace hX := hX.below hb
 replace pQ := pQ.below hb
 replace hQ := hQ.below hb
 clear hb kIx kI
 have pN := Blk.new u3 33 [.int .i64 0, .int .i64 0, .int .i64 0, .int .i64 0]
 have ha : Below u3.heap.size u3 (u3.alloc (.cells #[.int .i64 0, .int .i64 0, .int .i64 0, .int .i64 0] 33)) := by go_grown
 go_wp2_with (refine wpList_store_blk rfl 33 _ _ rfl u3.heap.size [.int .i64 z0, .int .i64 z1, .int .i64 z2, .int .i64 z3] rfl rfl pN (by kernel_rfl) rfl rfl ?_)
 intro u4 p2 g2
 have pE := p2.out
 have hb : Below u3.heap.size u3 u4 := ha.grown g2 ha.size (fun q e => by cases e; exact Nat.le_refl _)
 replace bw := bel_trans bw hb
 replace p0 := p0.below hb
 replace p1 := p1.below hb
 replace pY := pY.below hb
 replace pX := pX.below hb
 replace hX := hX.below hb
 replace pQ := pQ.below hb
 replace hQ := hQ.below hb
 clear p2 g2 ha pN hb
 generalize u3.heap.size = GE at *
 go_wp2_with (first | refine wpList_load_blk rfl 33 _ rfl GE rfl pE _ Tryd.underlying33 rfl (by kernel_rfl) ?_ | refine wpList_load_blk rfl 33 _ rfl Y rfl pY _ Tryd.underlying33 rfl (by kernel_rfl) ?_)
 refine (hev _).mono ?_
 rintro e u5 ⟨rfl, hb⟩
 replace bw := bel_trans bw hb
 replace p0 := p0.below hb
 replace p1 := p1.below hb
 replace pY := pY.below hb
 replace pX := pX.below hb
 replace hX := hX.below hb
 replace pQ := pQ.below hb
 replace hQ := hQ.below hb
 replace pE := pE.below hb
 clear hb hev
 go_wp2_with fail
 have hdr : Below u5.heap.size u5 u5.drew := by go_grown
 refine wp_region_held_drew (S := (fun w' => w'.rangeAt GX 0 [.slice (some ⟨gx, 0, none⟩) n0 n0] ∧ w'.rangeAt w.heap.size 0 [.slice a0 n0 c0])) (by kernel_rfl) ⟨blk_rangeN pX, blk_rangeN p0⟩ (fun hS0 => ?_)
 refine wpAnyH_take (i := 0) (oi := { dst := some 53, op := _, type := _, pos := _, after := _, guard := _ }) (v := .agg ([.slice (some ⟨gx, 0, none⟩) n0 n0]).toArray) rfl (by kernel_rfl) (by kernel_rfl) (by kernel_rfl) (fun _ _ _ h => h) (yieldsIf_load_mid (by rfl) 25 _ rfl GX 0 rfl [.slice (some ⟨gx, 0, none⟩) n0 n0] _ (fun _ h => h.1) Tryd.underlying25 rfl (by kernel_rfl)) (by assumption) ?_
 simp only [Act.put, tka, tkb, tkc]
 refine wpAnyH_take (i := 1) (oi := { dst := some 54, op := _, type := _, pos := _, after := _, guard := _ }) (v := .agg ([.slice a0 n0 c0]).toArray) rfl (by kernel_rfl) (by kernel_rfl) (by kernel_rfl) (fun _ _ _ h => h) (yieldsIf_load_mid (by rfl) 42 _ rfl w.heap.size 0 rfl [.slice a0 n0 c0] _ (fun _ h => h.2) Tryd.underlying42 rfl (by kernel_rfl)) (by assumption) ?_
 simp only [Act.put, tka, tkb, tkc]
 replace bw := bel_trans bw hdr
 replace p0 := p0.below hdr
 replace p1 := p1.below hdr
 replace pY := pY.below hdr
 replace pX := pX.below hdr
 replace hX := hX.below hdr
 replace pQ := pQ.below hdr
 replace hQ := hQ.below hdr
 replace pE := pE.below hdr
 clear hdr
 generalize u5.drew = E0 at *
 refine tkr 2 55 (fun K hK => ?_)
 go_simp
 refine (kT _ (h0.below bw)).mono ?_
 rintro e E1 ⟨rfl, hO, hb⟩
 have hK9 := hO.codes
 clear hO
 replace bw := bel_trans bw hb
 replace p0 := p0.below hb
 replace p1 := p1.below hb
 replace pY := pY.below hb
 replace pX := pX.below hb
 replace hX := hX.below hb
 replace pQ := pQ.below hb
 replace hQ := hQ.below hb
 replace pE := pE.below hb
 go_wp2_with fail
 refine hK.out _ _ ⟨blk_rangeN pX, blk_rangeN p0⟩ (fun hS1 => ?_)
 clear hK hb
 try simp only [Act.put, tka, tkb, tkc]
 refine tkr 3 56 (fun K hK => ?_)
 go_simp
 refine (eqProgram_same _ _ _ _ _ r0 _ hX hK9).mono ?_
 rintro e u6 ⟨rfl, hb⟩
 replace bw := bel_trans bw hb
 replace p0 := p0.below hb
 replace p1 := p1.below hb
 replace pY := pY.below hb
 replace pX := pX.below hb
 replace hX := hX.below hb
 replace pQ := pQ.below hb
 replace hQ := hQ.below hb
 replace pE := pE.below hb
 go_wp2_with fail
 refine hK.out _ _ ⟨blk_rangeN pX, blk_rangeN p0⟩ (fun hS2 => ?_)
 clear hK hb
 try simp only [Act.put, tka, tkb, tkc]
 refine tkm 4 57 (.bool false) ?_
 refine wpAnyH_done (by kernel_rfl) ?_ _
 clear hS0 hS1 hS2
 clear hK9
 go_wp2_with fail
 have hdr : Below u6.heap.size u6 u6.drew := by go_grown
 refine wp_region_held_drew (S := (fun w' => w'.rangeAt GQ 0 [.slice x0a x0n x0c, .slice x1a x1n x1c, .slice x2a x2n x2c, .slice x3a x3n x3c] ∧ w'.rangeAt (w.heap.size + 1) 0 [.slice t0a t0n t0c, .slice t1a t1n t1c, .slice t2a t2n t2c, .slice t3a t3n t3c])) (by kernel_rfl) ⟨blk_rangeN pQ, blk_rangeN p1⟩ (fun hS0 => ?_)
 refine wpAnyH_take (i := 0) (oi := { dst := some 58, op := _, type := _, pos := _, after := _, guard := _ }) (v := .agg ([.slice x0a x0n x0c, .slice x1a x1n x1c, .slice x2a x2n x2c, .slice x3a x3n x3c]).toArray) rfl (by kernel_rfl) (by kernel_rfl) (by kernel_rfl) (fun _ _ _ h => h) (yieldsIf_load_mid (by rfl) 29 _ rfl GQ 0 rfl [.slice x0a x0n x0c, .slice x1a x1n x1c, .slice x2a x2n x2c, .slice x3a x3n x3c] _ (fun _ h => h.1) Tryd.underlying29 rfl (by kernel_rfl)) (by assumption) ?_
 simp only [Act.put, tka, tkb, tkc]
 refine wpAnyH_take (i := 1) (oi := { dst := some 59, op := _, type := _, pos := _, after := _, guard := _ }) (v := .agg ([.slice t0a t0n t0c, .slice t1a t1n t1c, .slice t2a t2n t2c, .slice t3a t3n t3c]).toArray) rfl (by kernel_rfl) (by kernel_rfl) (by kernel_rfl) (fun _ _ _ h => h) (yieldsIf_load_mid (by rfl) 55 _ rfl (w.heap.size + 1) 0 rfl [.slice t0a t0n t0c, .slice t1a t1n t1c, .slice t2a t2n t2c, .slice t3a t3n t3c] _ (fun _ h => h.2) Tryd.underlying55 rfl (by kernel_rfl)) (by assumption) ?_
 simp only [Act.put, tka, tkb, tkc]
 replace bw := bel_trans bw hdr
 replace p0 := p0.below hdr
 replace p1 := p1.below hdr
 replace pY := pY.below hdr
 replace pX := pX.below hdr
 replace hX := hX.below hdr
 replace pQ := pQ.below hdr
 replace hQ := hQ.below hdr
 replace pE := pE.below hdr
 clear hdr
 generalize u6.drew = E0 at *
 refine tkr 2 60 (fun K hK => ?_)
 go_simp
 refine (kV _ (hM _ bw)).mono ?_
 rintro e E1 ⟨⟨⟨⟨y0a, y0n, y0c⟩, ⟨y1a, y1n, y1c⟩, ⟨y2a, y2n, y2c⟩, ⟨y3a, y3n, y3c⟩⟩, rfl, hO⟩, hb⟩
 have uy : S4.val ((y0a, y0n, y0c), (y1a, y1n, y1c), (y2a, y2n, y2c), (y3a, y3n, y3c)) = .agg #[.slice y0a y0n y0c, .slice y1a y1n y1c, .slice y2a y2n y2c, .slice y3a y3n y3c] := rfl
 rw [uy]
 have hK9 := hO.mem fm
 clear hO
 replace bw := bel_trans bw hb
 replace p0 := p0.below hb
 replace p1 := p1.below hb
 replace pY := pY.below hb
 replace pX := pX.below hb
 replace hX := hX.below hb
 replace pQ := pQ.below hb
 replace hQ := hQ.below hb
 replace pE := pE.below hb
 go_wp2_with fail
 refine hK.out _ _ ⟨blk_rangeN pQ, blk_rangeN p1⟩ (fun hS1 => ?_)
 clear hK hb
 try simp only [Act.put, tka, tkb, tkc]
 have kq9 := eqVm_same ((x0a, x0n, x0c), (x1a, x1n, x1c), (x2a, x2n, x2c), (x3a, x3n, x3c)) ((y0a, y0n, y0c), (y1a, y1n, y1c), (y2a, y2n, y2c), (y3a, y3n, y3c)) m _ hQ hK9
 rw [ux, uy] at kq9
 refine tkr 3 61 (fun K hK => ?_)
 go_simp
 refine (kq9).mono ?_
 rintro e u7 ⟨rfl, hb⟩
 replace bw := bel_trans bw hb
 replace p0 := p0.below hb
 replace p1 := p1.below hb
 replace pY := pY.below hb
 replace pX := pX.below hb
 replace hX := hX.below hb
 replace pQ := pQ.below hb
 replace hQ := hQ.below hb
 replace pE := pE.below hb
 go_wp2_with fail
 refine hK.out _ _ ⟨blk_rangeN pQ, blk_rangeN p1⟩ (fun hS2 => ?_)
 clear hK hb
 try simp only [Act.put, tka, tkb, tkc]
 refine tkm 4 62 (.bool false) ?_
 refine wpAnyH_done (by kernel_rfl) ?_ _
 clear hS0 hS1 hS2
 go_wp2
 go_ret
 exact ⟨rfl, bw⟩
theorem fnExactNextEvent_walk (a0 : Option Addr) (n0 c0 : Nat) (r0 : List (List I3)) (s1 : S4) (m1 : V4) (i2 : Int) (_wi2 : (Lit.int .i64 i2).wf = true) (w : World) (h0 : Codes w a0 n0 c0 r0) (h1 : Vmem w s1 m1) (hG : VmShape w) :
  Calls Tryd.prog 6 #[.agg #[.slice a0 n0 c0], s1.val, .int .i64 i2] w fun e w' => e = .returned (.bool true) ∧ Below w.heap.size w w' :=
 fnExactNextEvent_of a0 n0 c0 r0 s1 m1 i2 (nxtE r0 m1 i2) (nxtC r0 m1 i2) w h0 h1 hG (fun a n c s w hC h => specNextEvent_is a n c r0 s m1 i2 w hC h) (fun a n c s w hC h hV => implNextEvent_is a n c r0 s m1 i2 w hC h hV)
theorem fnExactNextEvent_laid {W : World} (h : laidMetH Tryd.prog Rows.fnExactNextEventRow.laid W) : VmShape W := vmShape_of_laid rfl h
theorem fnExactNextEvent_door_met (os : Os) (args : Array Value) : laidMetH Tryd.prog Rows.fnExactNextEventRow.laid ((World.doorLaid Tryd.prog 400 os).forCall (fun _ _ => 0) ⟨#[], args, []⟩).memory :=
 laidMetH_of_parts3 (fuel := 8) (laidMet_of_run' 8 (by kernel_rfl) (by kernel_rfl)) (by kernel_rfl) (by kernel_rfl)
end Go.Proofs.YtdojjmkpelgcaaaDoor
