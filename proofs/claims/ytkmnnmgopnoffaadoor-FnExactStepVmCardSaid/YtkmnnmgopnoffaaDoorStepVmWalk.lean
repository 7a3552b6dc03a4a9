
/-
  FnExactStepVm, given what both answer: the law's walk (marks and all).
-/
import Derived.Test.YtkmnnmgopnoffaaDoorVm1
import Derived.Test.YtkmnnmgopnoffaaDoorVm2
import Derived.Test.YtkmnnmgopnoffaaDoorSizeB
import Derived.Test.YtkmnnmgopnoffaaDoorMarkW
import Derived.Test.YtkmnnmgopnoffaaDoorProg5
import Derived.Test.YtkmnnmgopnoffaaDoorCopyG
import Derived.Test.YtkmnnmgopnoffaaDoorOwnS
import Derived.Test.YtkmnnmgopnoffaaDoorSpecE
import Derived.Test.YtkmnnmgopnoffaaDoorVmI
import Derived.Deep.RegionHeld3
import Derived.Deep.Cut
namespace Go.Proofs.YtkmnnmgopnoffaaDoor
open Go.RowKit
set_option linter.unusedVariables false
set_option linter.unusedSimpArgs false

/-- Where the ways through the region meet: the result's box, the numbers, the world. -/
def CutV9 (w0 : World) (z : V4) (e0 e1 : Int) (s8 s9 s10 : Value) (W : World) : Prop := ∃ (g : Nat) (t : S4), s8 = .pointer (some ⟨g, 0, none⟩) ∧ s9 = .int .i64 e0 ∧ s10 = .int .i64 e1 ∧ Blk W g 29 [.slice t.1.1 t.1.2.1 t.1.2.2, .slice t.2.1.1 t.2.1.2.1 t.2.1.2.2, .slice t.2.2.1.1 t.2.2.1.2.1 t.2.2.1.2.2, .slice t.2.2.2.1 t.2.2.2.2.1 t.2.2.2.2.2] ∧ Vmem W t z ∧ Below w0.heap.size w0 W
theorem CutV9.mk9 {w0 W : World} {z : V4} {e0 e1 : Int} {s8 s9 s10 : Value} (g : Nat) (t : S4) (h8 : s8 = .pointer (some ⟨g, 0, none⟩)) (h9 : s9 = .int .i64 e0) (h10 : s10 = .int .i64 e1) (hB : Blk W g 29 [.slice t.1.1 t.1.2.1 t.1.2.2, .slice t.2.1.1 t.2.1.2.1 t.2.1.2.2, .slice t.2.2.1.1 t.2.2.1.2.1 t.2.2.1.2.2, .slice t.2.2.2.1 t.2.2.2.2.1 t.2.2.2.2.2]) (hv : Vmem W t z) (hb : Below w0.heap.size w0 W) : CutV9 w0 z e0 e1 s8 s9 s10 W := ⟨g, t, h8, h9, h10, hB, hv, hb⟩
theorem step_store_blk9 {P : Program} {ops : Array Oper} {o : Oper} {a : Act} {w : World} {K : Act → World → Prop} {Q : Exit → Act → World → Prop} {E : Prop} (hgd : o.guard = none) (ty : TypeId) (x y : Operand) (ho : o.op = .store ty x y) (g : Nat) (vs : List Value) (hx : a.eval x = .pointer (some ⟨g, 0, none⟩)) (hy : a.eval y = .agg vs.toArray) {t : Nat} {cs : List Value} (hB : Blk w g t cs)
    (hi : (P.info? ty).map (·.size) = some vs.length) (hl : cs.length = vs.length) (h1 : vs.all (·.oneCell') = true)
    (h : ∀ w', Hid (Blk w' g t vs) → w.grownBy w' (some g) → K (a.put o.dst undef) w') : if Region.wanted o (yielded ops a.tmps) = true then Oper.wp P o a w K Q else E := by
  have hw : Region.wanted o (yielded ops a.tmps) = true := by simp [Region.wanted, hgd]
  rw [if_pos hw]
  exact wp_store_row ty x y ho g vs.toArray hx hy t cs.toArray hB (by simpa using hi) (by simpa using hl) (by simpa using h1) (h _ (blk_setRow vs hB) (grown_setRow _ _ _))

set_option maxHeartbeats 16000000 in
set_option maxRecDepth 100000 in
theorem fnExactStepVm_of (a0 : Option Addr) (n0 c0 : Nat) (r0 : List (List I3)) (s1 : S4) (m1 : V4) (i2 : Int) (z : V4) (hfz : V4.fits z) (hlz9 : z.1.length ≤ 1048576 ∧ z.2.1.length ≤ 1048576 ∧ z.2.2.1.length ≤ 1048576 ∧ z.2.2.2.length ≤ 1048576) (e0 e1 : Int) (w : World) (h0 : Codes w a0 n0 c0 r0) (h1 : Vmem w s1 m1) (hG0 : VmShape w)
    (kS : ∀ (a0 : Option Addr) (n0 c0 : Nat) (s1 : S4) (w : World), Codes w a0 n0 c0 r0 → Vmem w s1 m1 → Calls Tryd.prog 16 #[.agg #[.slice a0 n0 c0], s1.val, .int .i64 i2] w fun e w' => (∃ (t : S4), e = .returned (.tuple #[t.val, .int .i64 e0, .int .i64 e1]) ∧ OwnV w' w.heap.size t z) ∧ Below w.heap.size w w')
    (kI : ∀ (a0 : Option Addr) (n0 c0 : Nat) (s1 : S4) (w : World), Codes w a0 n0 c0 r0 → Vmem w s1 m1 → VmShape w → Calls Tryd.prog 15 #[.agg #[.slice a0 n0 c0], s1.val, .int .i64 i2] w fun e w' => (∃ (t : S4), e = .returned (.tuple #[t.val, .int .i64 e0, .int .i64 e1]) ∧ OwnV w' w.heap.size t z) ∧ Below w.heap.size w w') :
    Calls Tryd.prog 8 #[.agg #[.slice a0 n0 c0], s1.val, .int .i64 i2] w fun e w' => e = .returned (.bool true) ∧ Below w.heap.size w w' := by
  have kT0 := fun w h => toProgram_copy a0 n0 c0 r0 w h
  have kO0 := fun w h => toProgram_own a0 n0 c0 r0 w h
  have f1 := h1.fits
  have kZ1 := fun left w h => szVm_any s1 m1 left w h
  have kT1 := fun w h => toVm_own s1 m1 w h
  have hlm := h1
  obtain ⟨⟨⟨em0, _⟩, _⟩, ⟨⟨em1, _⟩, _⟩, ⟨⟨em2, _⟩, _⟩, ⟨⟨em3, _⟩, _⟩⟩ := hlm
  obtain ⟨⟨a1_0, n1_0, c1_0⟩, ⟨a1_1, n1_1, c1_1⟩, ⟨a1_2, n1_2, c1_2⟩, ⟨a1_3, n1_3, c1_3⟩⟩ := s1
  have u1 : S4.val ((a1_0, n1_0, c1_0), (a1_1, n1_1, c1_1), (a1_2, n1_2, c1_2), (a1_3, n1_3, c1_3)) = .agg #[.slice a1_0 n1_0 c1_0, .slice a1_1 n1_1 c1_1, .slice a1_2 n1_2 c1_2, .slice a1_3 n1_3 c1_3] := rfl
  rw [u1] at kZ1 kT1
  rw [u1]
  clear u1
  simp only at em0 em1 em2 em3
  have bw : Below w.heap.size w ((w.alloc (.cells #[.slice a0 n0 c0] 65)).alloc (.cells #[.slice a1_0 n1_0 c1_0, .slice a1_1 n1_1 c1_1, .slice a1_2 n1_2 c1_2, .slice a1_3 n1_3 c1_3] 66)) := by go_grown
  have p0 : Blk ((w.alloc (.cells #[.slice a0 n0 c0] 65)).alloc (.cells #[.slice a1_0 n1_0 c1_0, .slice a1_1 n1_1 c1_1, .slice a1_2 n1_2 c1_2, .slice a1_3 n1_3 c1_3] 66)) w.heap.size 65 [.slice a0 n0 c0] := blkOld _ (blkAt _ _ _ rfl)
  have p1 : Blk ((w.alloc (.cells #[.slice a0 n0 c0] 65)).alloc (.cells #[.slice a1_0 n1_0 c1_0, .slice a1_1 n1_1 c1_1, .slice a1_2 n1_2 c1_2, .slice a1_3 n1_3 c1_3] 66)) (w.heap.size + 1) 66 [.slice a1_0 n1_0 c1_0, .slice a1_1 n1_1 c1_1, .slice a1_2 n1_2 c1_2, .slice a1_3 n1_3 c1_3] := blkAt _ _ _ (by simp)
  go_enter Tryd.func8, Tryd.ntmps8
  go_wp2_with fail
  generalize ((w.alloc (.cells #[.slice a0 n0 c0] 65)).alloc (.cells #[.slice a1_0 n1_0 c1_0, .slice a1_1 n1_1 c1_1, .slice a1_2 n1_2 c1_2, .slice a1_3 n1_3 c1_3] 66)) = W0 at *
  have hz := sizeLeft_or r0 1048576 (by omega)
  have hbd := size_bounds (rows := r0) (left := 1048576) (by omega)
  have hcb := fun h => sizeLeft_cnt (rows := r0) (left := 1048576) h
  refine (szProgram_less a0 n0 c0 r0 1048576 _ (h0.below bw) (by omega) (by omega)).mono ?_
  rintro e wz0 ⟨rfl, hb⟩
  generalize sizeLeft 1048576 r0 = z0 at hz hbd hcb
  replace bw := bel_trans bw hb
  replace p0 := p0.below hb
  replace p1 := p1.below hb
  clear hb
  rcases hz with rfl | ⟨y0, x0'⟩
  · clear hbd hcb
    go_wp2
    go_ret
    exact ⟨rfl, bw⟩
  obtain ⟨hr, hr'⟩ := hbd y0 (by omega)
  have hcnt := hcb y0
  have hlen : n0 ≤ 1048576 := by rw [← h0.1]; exact hr
  replace kT0 := fun w h => kT0 w h hlen (fun t _ => hr' t)
  replace kO0 := fun w h => kO0 w h hlen (fun t _ => hr' t)
  have hcl : cntP r0 r0.length ≤ 10000000 := by omega
  have hcj : ∀ j, j ≤ r0.length → cntP r0 j ≤ 10000000 := fun j hj => by have := cntP_mono r0 j; omega
  have HRJ : Hid (∀ j, j < r0.length → (r0.getD j []).length ≤ 1048576) := fun j _ => hr' j
  clear hbd hr hr' hlen hcb hcnt
  have hn0 : decide (z0 < 0) = false := by simp; omega
  have cc0 := p1.cell 0
  have cc1 := p1.cell 1
  have cc2 := p1.cell 2
  have cc3 := p1.cell 3
  simp only [List.getElem?_cons_zero, List.getElem?_cons_succ] at cc0 cc1 cc2 cc3
  go_wp2_with fail
  refine (kZ1 z0 _ (h1.below bw) (by omega) (by omega)).mono ?_
  rintro e wz1 ⟨⟨z1, rfl, hz⟩, hb⟩
  replace bw := bel_trans bw hb
  replace p0 := p0.below hb
  replace p1 := p1.below hb
  clear hb kZ1 cc0 cc1 cc2 cc3
  rcases hz with rfl | ⟨y1, x1', l0, l1, l2, l3⟩
  · go_wp2
    go_ret
    exact ⟨rfl, bw⟩
  simp only at l0 l1 l2 l3
  replace kT1 := fun w h => kT1 w h (by omega) (by omega) (by omega) (by omega)
  have lm0 : m1.1.length ≤ 1048576 := by omega
  have lm1 : m1.2.1.length ≤ 1048576 := by omega
  have lm2 : m1.2.2.1.length ≤ 1048576 := by omega
  have lm3 : m1.2.2.2.length ≤ 1048576 := by omega
  clear l0 l1 l2 l3 em0 em1 em2 em3
  have hn1 : decide (z1 < 0) = false := by simp; omega
  clear y0 x0' y1 x1'
  have g0_0 := p0.cell 0
  have g1_0 := p1.cell 0
  have g1_1 := p1.cell 1
  have g1_2 := p1.cell 2
  have g1_3 := p1.cell 3
  simp only [List.getElem?_cons_zero, List.getElem?_cons_succ] at g0_0 g1_0 g1_1 g1_2 g1_3
  go_wp2_with fail
  go_cut [8, 9, 10] from 22 (fun s8 s9 s10 W => CutV9 wz1 z e0 e1 s8 s9 s10 W)
  case first =>
    have bd : Below w.heap.size w wz1.drew := bel_trans bw (by go_grown)
    refine wp_region_held_drew (S := (fun w' => w'.cell? ⟨w.heap.size, 0, none⟩ = some (.slice a0 n0 c0) ∧ w'.cell? ⟨w.heap.size + 1, 0, none⟩ = some (.slice a1_0 n1_0 c1_0) ∧ w'.cell? ⟨w.heap.size + 1, 1, none⟩ = some (.slice a1_1 n1_1 c1_1) ∧ w'.cell? ⟨w.heap.size + 1, 2, none⟩ = some (.slice a1_2 n1_2 c1_2) ∧ w'.cell? ⟨w.heap.size + 1, 3, none⟩ = some (.slice a1_3 n1_3 c1_3))) (by kernel_rfl) ⟨g0_0, g1_0, g1_1, g1_2, g1_3⟩ (fun hS0 => ?_)
    have bq : Below wz1.drew.heap.size wz1.drew wz1.drew := Below.refl _ _
    refine wpAnyH_take (i := 0) (oi := { dst := some 33, op := _, type := _, pos := _, after := _, guard := _ }) (v := .agg #[.slice a0 n0 c0]) rfl (by kernel_rfl) (by kernel_rfl) (by kernel_rfl) (fun _ _ _ h => h) (Or.inl ⟨by rfl, ?_⟩) (by assumption) ?_
    · (intro w' hSw; (try dsimp only at hSw); go_simp; try rfl)
    simp only [Act.put, List.setIfInBounds_toArray, List.set_cons_zero, List.set_cons_succ]
    refine wpAnyH_take (i := 2) (oi := { dst := some 35, op := _, type := _, pos := _, after := _, guard := _ }) (v := .agg #[.slice a1_0 n1_0 c1_0, .slice a1_1 n1_1 c1_1, .slice a1_2 n1_2 c1_2, .slice a1_3 n1_3 c1_3]) rfl (by kernel_rfl) (by kernel_rfl) (by kernel_rfl) (fun _ _ _ h => h) (Or.inl ⟨by rfl, ?_⟩) (by assumption) ?_
    · (intro w' hSw; (try dsimp only at hSw); go_simp; try rfl)
    simp only [Act.put, List.setIfInBounds_toArray, List.set_cons_zero, List.set_cons_succ]
    refine wpAnyH_take (i := 4) (oi := { dst := some 37, op := _, type := _, pos := _, after := _, guard := _ }) (v := .int .i64 i2) rfl (by kernel_rfl) (by kernel_rfl) (by kernel_rfl) (fun _ _ _ h => h) (Or.inl ⟨by rfl, ?_⟩) (by assumption) ?_
    · (intro w' hSw; (try dsimp only at hSw); go_simp; try rfl)
    simp only [Act.put, List.setIfInBounds_toArray, List.set_cons_zero, List.set_cons_succ]
    refine wpAnyH_ready (rs := [1, 10]) (by kernel_rfl) (by simp) ?_
    refine AllReadyH.cons (o := { dst := some 34, op := _, type := _, pos := _, after := _, guard := _ }) rfl (fun K hK => ?_) (AllReadyH.cons (o := { dst := some 8, op := _, type := _, pos := _, after := _, guard := _ }) rfl (fun K hK => ?_) AllReadyH.nil)
    · skip
      go_simp
      refine (kT0 _ (h0.below (bel_trans bd bq))).mono ?_
      rintro e wqa ⟨rfl, hO0, hq⟩
      have hc := hO0.codes
      replace bq := bel_trans bq hq
      clear hq
      go_wp2_with fail
      refine hK.out _ _ ?_ (fun hSc => ?_)
      · exact ⟨cells_kept bq _ _ hS0.1, cells_kept bq _ _ hS0.2.1, cells_kept bq _ _ hS0.2.2.1, cells_kept bq _ _ hS0.2.2.2.1, cells_kept bq _ _ hS0.2.2.2.2⟩
      clear hK
      refine wpAnyH_ready (rs := [3, 10]) (by kernel_rfl) (by simp) ?_
      refine AllReadyH.cons (o := { dst := some 36, op := _, type := _, pos := _, after := _, guard := _ }) rfl (fun K hK => ?_) (AllReadyH.cons (o := { dst := some 8, op := _, type := _, pos := _, after := _, guard := _ }) rfl (fun K hK => ?_) AllReadyH.nil)
      · skip
        go_simp
        refine (kT1 _ (h1.below (bel_trans bd bq))).mono ?_
        rintro e wqb ⟨⟨t1, rfl, hO1⟩, hq⟩
        have hv := hO1.mem f1
        replace hc := hc.below hq
        replace bq := bel_trans bq hq
        clear hq
        go_wp2_with fail
        refine hK.out _ _ ?_ (fun hSc => ?_)
        · exact ⟨cells_kept bq _ _ hS0.1, cells_kept bq _ _ hS0.2.1, cells_kept bq _ _ hS0.2.2.1, cells_kept bq _ _ hS0.2.2.2.1, cells_kept bq _ _ hS0.2.2.2.2⟩
        clear hK
        refine wpAnyH_ready (rs := [5, 10]) (by kernel_rfl) (by simp) ?_
        refine AllReadyH.cons (o := { dst := some 38, op := _, type := _, pos := _, after := _, guard := _ }) rfl (fun K hK => ?_) (AllReadyH.cons (o := { dst := some 8, op := _, type := _, pos := _, after := _, guard := _ }) rfl (fun K hK => ?_) AllReadyH.nil)
        · skip
          go_simp
          refine (kS _ _ _ t1 _ hc hv).mono ?_
          rintro e wqc ⟨⟨tr, rfl, hO⟩, hq⟩
          obtain ⟨⟨sr0a, sr0n, sr0c⟩, ⟨sr1a, sr1n, sr1c⟩, ⟨sr2a, sr2n, sr2c⟩, ⟨sr3a, sr3n, sr3c⟩⟩ := tr
          have uR : S4.val ((sr0a, sr0n, sr0c), (sr1a, sr1n, sr1c), (sr2a, sr2n, sr2c), (sr3a, sr3n, sr3c)) = .agg #[.slice sr0a sr0n sr0c, .slice sr1a sr1n sr1c, .slice sr2a sr2n sr2c, .slice sr3a sr3n sr3c] := rfl
          rw [uR]; clear uR hc hv
          have HO : Hid (OwnV wqc 0 ((sr0a, sr0n, sr0c), (sr1a, sr1n, sr1c), (sr2a, sr2n, sr2c), (sr3a, sr3n, sr3c)) z) := OwnV.lower9 hO (Nat.zero_le _)
          clear hO
          replace bq := bel_trans bq hq
          clear hq
          go_wp2_with fail
          refine hK.out _ _ ?_ (fun hSc => ?_)
          · exact ⟨cells_kept bq _ _ hS0.1, cells_kept bq _ _ hS0.2.1, cells_kept bq _ _ hS0.2.2.1, cells_kept bq _ _ hS0.2.2.2.1, cells_kept bq _ _ hS0.2.2.2.2⟩
          clear hK
          refine wpAnyH_take (i := 6) (oi := { dst := some 32, op := _, type := _, pos := _, after := _, guard := _ }) (v := .tuple #[.agg #[.slice sr0a sr0n sr0c, .slice sr1a sr1n sr1c, .slice sr2a sr2n sr2c, .slice sr3a sr3n sr3c], .int .i64 e0, .int .i64 e1]) rfl (by kernel_rfl) (by kernel_rfl) (by kernel_rfl) (fun _ _ _ h => h) (Or.inl ⟨by rfl, ?_⟩) (by assumption) ?_
          · (intro w' hSw; (try dsimp only at hSw); go_simp; try rfl)
          simp only [Act.put, List.setIfInBounds_toArray, List.set_cons_zero, List.set_cons_succ]
          refine wpAnyH_take (i := 7) (oi := { dst := some 39, op := _, type := _, pos := _, after := _, guard := _ }) (v := .agg #[.slice sr0a sr0n sr0c, .slice sr1a sr1n sr1c, .slice sr2a sr2n sr2c, .slice sr3a sr3n sr3c]) rfl (by kernel_rfl) (by kernel_rfl) (by kernel_rfl) (fun _ _ _ h => h) (Or.inl ⟨by rfl, ?_⟩) (by assumption) ?_
          · (intro w' hSw; (try dsimp only at hSw); go_simp; try rfl)
          simp only [Act.put, List.setIfInBounds_toArray, List.set_cons_zero, List.set_cons_succ]
          refine wpAnyH_take (i := 8) (oi := { dst := some 40, op := _, type := _, pos := _, after := _, guard := _ }) (v := .int .i64 e0) rfl (by kernel_rfl) (by kernel_rfl) (by kernel_rfl) (fun _ _ _ h => h) (Or.inl ⟨by rfl, ?_⟩) (by assumption) ?_
          · (intro w' hSw; (try dsimp only at hSw); go_simp; try rfl)
          simp only [Act.put, List.setIfInBounds_toArray, List.set_cons_zero, List.set_cons_succ]
          refine wpAnyH_take (i := 9) (oi := { dst := some 41, op := _, type := _, pos := _, after := _, guard := _ }) (v := .int .i64 e1) rfl (by kernel_rfl) (by kernel_rfl) (by kernel_rfl) (fun _ _ _ h => h) (Or.inl ⟨by rfl, ?_⟩) (by assumption) ?_
          · (intro w' hSw; (try dsimp only at hSw); go_simp; try rfl)
          simp only [Act.put, List.setIfInBounds_toArray, List.set_cons_zero, List.set_cons_succ]
          refine wpAnyH_ready (rs := [10]) (by kernel_rfl) (by simp) ?_
          refine AllReadyH.cons (o := { dst := some 8, op := _, type := _, pos := _, after := _, guard := _ }) rfl (fun K hK => ?_) AllReadyH.nil
          go_simp
          have hal : Below wqc.heap.size wqc (wqc.alloc (.cells #[.slice none 0 0, .slice none 0 0, .slice none 0 0, .slice none 0 0] 29)) := by go_grown
          have hgx : wz1.drew.heap.size ≤ wqc.heap.size := bq.size
          have pX := Blk.new wqc 29 [.slice none 0 0, .slice none 0 0, .slice none 0 0, .slice none 0 0]
          replace bq := bel_trans bq hal
          refine hK.out _ (wqc.alloc (.cells #[.slice none 0 0, .slice none 0 0, .slice none 0 0, .slice none 0 0] 29)) ?_ (fun hSa => ?_)
          · exact ⟨cells_kept bq _ _ hS0.1, cells_kept bq _ _ hS0.2.1, cells_kept bq _ _ hS0.2.2.1, cells_kept bq _ _ hS0.2.2.2.1, cells_kept bq _ _ hS0.2.2.2.2⟩
          clear hK
          try simp only [Act.put, List.setIfInBounds_toArray, List.set_cons_zero, List.set_cons_succ]
          generalize (wqc.alloc (.cells #[.slice none 0 0, .slice none 0 0, .slice none 0 0, .slice none 0 0] 29)) = wa at *
          replace HO := Hid.mk9 (HO.out.below hal)
          clear hal hSa
          refine wpAnyH_ready (rs := [11]) (by kernel_rfl) (by simp) ?_
          refine AllReadyH.cons (o := { dst := none, op := _, type := _, pos := _, after := _, guard := _ }) rfl (fun K hK => ?_) AllReadyH.nil
          refine step_store_blk9 rfl 29 _ _ rfl (wqc.heap.size) [.slice sr0a sr0n sr0c, .slice sr1a sr1n sr1c, .slice sr2a sr2n sr2c, .slice sr3a sr3n sr3c] rfl rfl pX (by kernel_rfl) rfl rfl ?_
          intro w8 pX9 g9
          replace bq := bq.grown g9 bq.size (fun x hx => by cases hx; exact hgx)
          have hO9 := HO.out.kept9 g9 pX (by decide)
          refine hK.out _ _ ?_ (fun hSb => ?_)
          · exact ⟨cells_kept bq _ _ hS0.1, cells_kept bq _ _ hS0.2.1, cells_kept bq _ _ hS0.2.2.1, cells_kept bq _ _ hS0.2.2.2.1, cells_kept bq _ _ hS0.2.2.2.2⟩
          clear hK
          try simp only [Act.put, List.setIfInBounds_toArray, List.set_cons_zero, List.set_cons_succ]
          refine wpAnyH_take (i := 12) (oi := { dst := some 9, op := _, type := _, pos := _, after := _, guard := _ }) (v := .int .i64 e0) rfl (by kernel_rfl) (by kernel_rfl) (by kernel_rfl) (fun _ _ _ h => h) (Or.inl ⟨by rfl, ?_⟩) (by assumption) ?_
          · (intro w' hSw; (try dsimp only at hSw); go_simp; try rfl)
          simp only [Act.put, List.setIfInBounds_toArray, List.set_cons_zero, List.set_cons_succ]
          refine wpAnyH_take (i := 13) (oi := { dst := some 10, op := _, type := _, pos := _, after := _, guard := _ }) (v := .int .i64 e1) rfl (by kernel_rfl) (by kernel_rfl) (by kernel_rfl) (fun _ _ _ h => h) (Or.inl ⟨by rfl, ?_⟩) (by assumption) ?_
          · (intro w' hSw; (try dsimp only at hSw); go_simp; try rfl)
          simp only [Act.put, List.setIfInBounds_toArray, List.set_cons_zero, List.set_cons_succ]
          refine wpAnyH_done (by kernel_rfl) ?_ _
          go_wp2_with fail
          go_meet
          case rel => exact CutV9.mk9 (wqc.heap.size) ((sr0a, sr0n, sr0c), (sr1a, sr1n, sr1c), (sr2a, sr2n, sr2c), (sr3a, sr3n, sr3c)) rfl rfl rfl pX9.out (hO9.mem hfz) (bel_trans (by go_grown) bq)
        · skip
          go_simp
          have hal : Below wqb.heap.size wqb (wqb.alloc (.cells #[.slice none 0 0, .slice none 0 0, .slice none 0 0, .slice none 0 0] 29)) := by go_grown
          have hgx : wz1.drew.heap.size ≤ wqb.heap.size := bq.size
          have pX := Blk.new wqb 29 [.slice none 0 0, .slice none 0 0, .slice none 0 0, .slice none 0 0]
          replace bq := bel_trans bq hal
          refine hK.out _ (wqb.alloc (.cells #[.slice none 0 0, .slice none 0 0, .slice none 0 0, .slice none 0 0] 29)) ?_ (fun hSa => ?_)
          · exact ⟨cells_kept bq _ _ hS0.1, cells_kept bq _ _ hS0.2.1, cells_kept bq _ _ hS0.2.2.1, cells_kept bq _ _ hS0.2.2.2.1, cells_kept bq _ _ hS0.2.2.2.2⟩
          clear hK
          try simp only [Act.put, List.setIfInBounds_toArray, List.set_cons_zero, List.set_cons_succ]
          generalize (wqb.alloc (.cells #[.slice none 0 0, .slice none 0 0, .slice none 0 0, .slice none 0 0] 29)) = wa at *
          replace hc := hc.below hal
          replace hv := hv.below hal
          clear hal hSa
          refine wpAnyH_ready (rs := [5]) (by kernel_rfl) (by simp) ?_
          refine AllReadyH.cons (o := { dst := some 38, op := _, type := _, pos := _, after := _, guard := _ }) rfl (fun K hK => ?_) AllReadyH.nil
          go_simp
          refine (kS _ _ _ t1 _ hc hv).mono ?_
          rintro e wqc ⟨⟨tr, rfl, hO⟩, hq⟩
          obtain ⟨⟨sr0a, sr0n, sr0c⟩, ⟨sr1a, sr1n, sr1c⟩, ⟨sr2a, sr2n, sr2c⟩, ⟨sr3a, sr3n, sr3c⟩⟩ := tr
          have uR : S4.val ((sr0a, sr0n, sr0c), (sr1a, sr1n, sr1c), (sr2a, sr2n, sr2c), (sr3a, sr3n, sr3c)) = .agg #[.slice sr0a sr0n sr0c, .slice sr1a sr1n sr1c, .slice sr2a sr2n sr2c, .slice sr3a sr3n sr3c] := rfl
          rw [uR]; clear uR hc hv
          have HO : Hid (OwnV wqc 0 ((sr0a, sr0n, sr0c), (sr1a, sr1n, sr1c), (sr2a, sr2n, sr2c), (sr3a, sr3n, sr3c)) z) := OwnV.lower9 hO (Nat.zero_le _)
          clear hO
          replace pX := pX.below hq
          replace bq := bel_trans bq hq
          clear hq
          go_wp2_with fail
          refine hK.out _ _ ?_ (fun hSc => ?_)
          · exact ⟨cells_kept bq _ _ hS0.1, cells_kept bq _ _ hS0.2.1, cells_kept bq _ _ hS0.2.2.1, cells_kept bq _ _ hS0.2.2.2.1, cells_kept bq _ _ hS0.2.2.2.2⟩
          clear hK
          refine wpAnyH_take (i := 6) (oi := { dst := some 32, op := _, type := _, pos := _, after := _, guard := _ }) (v := .tuple #[.agg #[.slice sr0a sr0n sr0c, .slice sr1a sr1n sr1c, .slice sr2a sr2n sr2c, .slice sr3a sr3n sr3c], .int .i64 e0, .int .i64 e1]) rfl (by kernel_rfl) (by kernel_rfl) (by kernel_rfl) (fun _ _ _ h => h) (Or.inl ⟨by rfl, ?_⟩) (by assumption) ?_
          · (intro w' hSw; (try dsimp only at hSw); go_simp; try rfl)
          simp only [Act.put, List.setIfInBounds_toArray, List.set_cons_zero, List.set_cons_succ]
          refine wpAnyH_take (i := 7) (oi := { dst := some 39, op := _, type := _, pos := _, after := _, guard := _ }) (v := .agg #[.slice sr0a sr0n sr0c, .slice sr1a sr1n sr1c, .slice sr2a sr2n sr2c, .slice sr3a sr3n sr3c]) rfl (by kernel_rfl) (by kernel_rfl) (by kernel_rfl) (fun _ _ _ h => h) (Or.inl ⟨by rfl, ?_⟩) (by assumption) ?_
          · (intro w' hSw; (try dsimp only at hSw); go_simp; try rfl)
          simp only [Act.put, List.setIfInBounds_toArray, List.set_cons_zero, List.set_cons_succ]
          refine wpAnyH_take (i := 8) (oi := { dst := some 40, op := _, type := _, pos := _, after := _, guard := _ }) (v := .int .i64 e0) rfl (by kernel_rfl) (by kernel_rfl) (by kernel_rfl) (fun _ _ _ h => h) (Or.inl ⟨by rfl, ?_⟩) (by assumption) ?_
          · (intro w' hSw; (try dsimp only at hSw); go_simp; try rfl)
          simp only [Act.put, List.setIfInBounds_toArray, List.set_cons_zero, List.set_cons_succ]
          refine wpAnyH_take (i := 9) (oi := { dst := some 41, op := _, type := _, pos := _, after := _, guard := _ }) (v := .int .i64 e1) rfl (by kernel_rfl) (by kernel_rfl) (by kernel_rfl) (fun _ _ _ h => h) (Or.inl ⟨by rfl, ?_⟩) (by assumption) ?_
          · (intro w' hSw; (try dsimp only at hSw); go_simp; try rfl)
          simp only [Act.put, List.setIfInBounds_toArray, List.set_cons_zero, List.set_cons_succ]
          refine wpAnyH_ready (rs := [11]) (by kernel_rfl) (by simp) ?_
          refine AllReadyH.cons (o := { dst := none, op := _, type := _, pos := _, after := _, guard := _ }) rfl (fun K hK => ?_) AllReadyH.nil
          refine step_store_blk9 rfl 29 _ _ rfl (wqb.heap.size) [.slice sr0a sr0n sr0c, .slice sr1a sr1n sr1c, .slice sr2a sr2n sr2c, .slice sr3a sr3n sr3c] rfl rfl pX (by kernel_rfl) rfl rfl ?_
          intro w8 pX9 g9
          replace bq := bq.grown g9 bq.size (fun x hx => by cases hx; exact hgx)
          have hO9 := HO.out.kept9 g9 pX (by decide)
          refine hK.out _ _ ?_ (fun hSb => ?_)
          · exact ⟨cells_kept bq _ _ hS0.1, cells_kept bq _ _ hS0.2.1, cells_kept bq _ _ hS0.2.2.1, cells_kept bq _ _ hS0.2.2.2.1, cells_kept bq _ _ hS0.2.2.2.2⟩
          clear hK
          try simp only [Act.put, List.setIfInBounds_toArray, List.set_cons_zero, List.set_cons_succ]
          refine wpAnyH_take (i := 12) (oi := { dst := some 9, op := _, type := _, pos := _, after := _, guard := _ }) (v := .int .i64 e0) rfl (by kernel_rfl) (by kernel_rfl) (by kernel_rfl) (fun _ _ _ h => h) (Or.inl ⟨by rfl, ?_⟩) (by assumption) ?_
          · (intro w' hSw; (try dsimp only at hSw); go_simp; try rfl)
          simp only [Act.put, List.setIfInBounds_toArray, List.set_cons_zero, List.set_cons_succ]
          refine wpAnyH_take (i := 13) (oi := { dst := some 10, op := _, type := _, pos := _, after := _, guard := _ }) (v := .int .i64 e1) rfl (by kernel_rfl) (by kernel_rfl) (by kernel_rfl) (fun _ _ _ h => h) (Or.inl ⟨by rfl, ?_⟩) (by assumption) ?_
          · (intro w' hSw; (try dsimp only at hSw); go_simp; try rfl)
          simp only [Act.put, List.setIfInBounds_toArray, List.set_cons_zero, List.set_cons_succ]
          refine wpAnyH_done (by kernel_rfl) ?_ _
          go_wp2_with fail
          go_meet
          case rel => exact CutV9.mk9 (wqb.heap.size) ((sr0a, sr0n, sr0c), (sr1a, sr1n, sr1c), (sr2a, sr2n, sr2c), (sr3a, sr3n, sr3c)) rfl rfl rfl pX9.out (hO9.mem hfz) (bel_trans (by go_grown) bq)
      · skip
        go_simp
        have hal : Below wqa.heap.size wqa (wqa.alloc (.cells #[.slice none 0 0, .slice none 0 0, .slice none 0 0, .slice none 0 0] 29)) := by go_grown
        have hgx : wz1.drew.heap.size ≤ wqa.heap.size := bq.size
        have pX := Blk.new wqa 29 [.slice none 0 0, .slice none 0 0, .slice none 0 0, .slice none 0 0]
        replace bq := bel_trans bq hal
        refine hK.out _ (wqa.alloc (.cells #[.slice none 0 0, .slice none 0 0, .slice none 0 0, .slice none 0 0] 29)) ?_ (fun hSa => ?_)
        · exact ⟨cells_kept bq _ _ hS0.1, cells_kept bq _ _ hS0.2.1, cells_kept bq _ _ hS0.2.2.1, cells_kept bq _ _ hS0.2.2.2.1, cells_kept bq _ _ hS0.2.2.2.2⟩
        clear hK
        try simp only [Act.put, List.setIfInBounds_toArray, List.set_cons_zero, List.set_cons_succ]
        generalize (wqa.alloc (.cells #[.slice none 0 0, .slice none 0 0, .slice none 0 0, .slice none 0 0] 29)) = wa at *
        replace hc := hc.below hal
        clear hal hSa
        refine wpAnyH_ready (rs := [3]) (by kernel_rfl) (by simp) ?_
        refine AllReadyH.cons (o := { dst := some 36, op := _, type := _, pos := _, after := _, guard := _ }) rfl (fun K hK => ?_) AllReadyH.nil
        go_simp
        refine (kT1 _ (h1.below (bel_trans bd bq))).mono ?_
        rintro e wqb ⟨⟨t1, rfl, hO1⟩, hq⟩
        have hv := hO1.mem f1
        replace hc := hc.below hq
        replace pX := pX.below hq
        replace bq := bel_trans bq hq
        clear hq
        go_wp2_with fail
        refine hK.out _ _ ?_ (fun hSc => ?_)
        · exact ⟨cells_kept bq _ _ hS0.1, cells_kept bq _ _ hS0.2.1, cells_kept bq _ _ hS0.2.2.1, cells_kept bq _ _ hS0.2.2.2.1, cells_kept bq _ _ hS0.2.2.2.2⟩
        clear hK
        refine wpAnyH_ready (rs := [5]) (by kernel_rfl) (by simp) ?_
        refine AllReadyH.cons (o := { dst := some 38, op := _, type := _, pos := _, after := _, guard := _ }) rfl (fun K hK => ?_) AllReadyH.nil
        go_simp
        refine (kS _ _ _ t1 _ hc hv).mono ?_
        rintro e wqc ⟨⟨tr, rfl, hO⟩, hq⟩
        obtain ⟨⟨sr0a, sr0n, sr0c⟩, ⟨sr1a, sr1n, sr1c⟩, ⟨sr2a, sr2n, sr2c⟩, ⟨sr3a, sr3n, sr3c⟩⟩ := tr
        have uR : S4.val ((sr0a, sr0n, sr0c), (sr1a, sr1n, sr1c), (sr2a, sr2n, sr2c), (sr3a, sr3n, sr3c)) = .agg #[.slice sr0a sr0n sr0c, .slice sr1a sr1n sr1c, .slice sr2a sr2n sr2c, .slice sr3a sr3n sr3c] := rfl
        rw [uR]; clear uR hc hv
        have HO : Hid (OwnV wqc 0 ((sr0a, sr0n, sr0c), (sr1a, sr1n, sr1c), (sr2a, sr2n, sr2c), (sr3a, sr3n, sr3c)) z) := OwnV.lower9 hO (Nat.zero_le _)
        clear hO
        replace pX := pX.below hq
        replace bq := bel_trans bq hq
        clear hq
        go_wp2_with fail
        refine hK.out _ _ ?_ (fun hSc => ?_)
        · exact ⟨cells_kept bq _ _ hS0.1, cells_kept bq _ _ hS0.2.1, cells_kept bq _ _ hS0.2.2.1, cells_kept bq _ _ hS0.2.2.2.1, cells_kept bq _ _ hS0.2.2.2.2⟩
        clear hK
        refine wpAnyH_take (i := 6) (oi := { dst := some 32, op := _, type := _, pos := _, after := _, guard := _ }) (v := .tuple #[.agg #[.slice sr0a sr0n sr0c, .slice sr1a sr1n sr1c, .slice sr2a sr2n sr2c, .slice sr3a sr3n sr3c], .int .i64 e0, .int .i64 e1]) rfl (by kernel_rfl) (by kernel_rfl) (by kernel_rfl) (fun _ _ _ h => h) (Or.inl ⟨by rfl, ?_⟩) (by assumption) ?_
        · (intro w' hSw; (try dsimp only at hSw); go_simp; try rfl)
        simp only [Act.put, List.setIfInBounds_toArray, List.set_cons_zero, List.set_cons_succ]
        refine wpAnyH_take (i := 7) (oi := { dst := some 39, op := _, type := _, pos := _, after := _, guard := _ }) (v := .agg #[.slice sr0a sr0n sr0c, .slice sr1a sr1n sr1c, .slice sr2a sr2n sr2c, .slice sr3a sr3n sr3c]) rfl (by kernel_rfl) (by kernel_rfl) (by kernel_rfl) (fun _ _ _ h => h) (Or.inl ⟨by rfl, ?_⟩) (by assumption) ?_
        · (intro w' hSw; (try dsimp only at hSw); go_simp; try rfl)
        simp only [Act.put, List.setIfInBounds_toArray, List.set_cons_zero, List.set_cons_succ]
        refine wpAnyH_take (i := 8) (oi := { dst := some 40, op := _, type := _, pos := _, after := _, guard := _ }) (v := .int .i64 e0) rfl (by kernel_rfl) (by kernel_rfl) (by kernel_rfl) (fun _ _ _ h => h) (Or.inl ⟨by rfl, ?_⟩) (by assumption) ?_
        · (intro w' hSw; (try dsimp only at hSw); go_simp; try rfl)
        simp only [Act.put, List.setIfInBounds_toArray, List.set_cons_zero, List.set_cons_succ]
        refine wpAnyH_take (i := 9) (oi := { dst := some 41, op := _, type := _, pos := _, after := _, guard := _ }) (v := .int .i64 e1) rfl (by kernel_rfl) (by kernel_rfl) (by kernel_rfl) (fun _ _ _ h => h) (Or.inl ⟨by rfl, ?_⟩) (by assumption) ?_
        · (intro w' hSw; (try dsimp only at hSw); go_simp; try rfl)
        simp only [Act.put, List.setIfInBounds_toArray, List.set_cons_zero, List.set_cons_succ]
        refine wpAnyH_ready (rs := [11]) (by kernel_rfl) (by simp) ?_
        refine AllReadyH.cons (o := { dst := none, op := _, type := _, pos := _, after := _, guard := _ }) rfl (fun K hK => ?_) AllReadyH.nil
        refine step_store_blk9 rfl 29 _ _ rfl (wqa.heap.size) [.slice sr0a sr0n sr0c, .slice sr1a sr1n sr1c, .slice sr2a sr2n sr2c, .slice sr3a sr3n sr3c] rfl rfl pX (by kernel_rfl) rfl rfl ?_
        intro w8 pX9 g9
        replace bq := bq.grown g9 bq.size (fun x hx => by cases hx; exact hgx)
        have hO9 := HO.out.kept9 g9 pX (by decide)
        refine hK.out _ _ ?_ (fun hSb => ?_)
        · exact ⟨cells_kept bq _ _ hS0.1, cells_kept bq _ _ hS0.2.1, cells_kept bq _ _ hS0.2.2.1, cells_kept bq _ _ hS0.2.2.2.1, cells_kept bq _ _ hS0.2.2.2.2⟩
        clear hK
        try simp only [Act.put, List.setIfInBounds_toArray, List.set_cons_zero, List.set_cons_succ]
        refine wpAnyH_take (i := 12) (oi := { dst := some 9, op := _, type := _, pos := _, after := _, guard := _ }) (v := .int .i64 e0) rfl (by kernel_rfl) (by kernel_rfl) (by kernel_rfl) (fun _ _ _ h => h) (Or.inl ⟨by rfl, ?_⟩) (by assumption) ?_
        · (intro w' hSw; (try dsimp only at hSw); go_simp; try rfl)
        simp only [Act.put, List.setIfInBounds_toArray, List.set_cons_zero, List.set_cons_succ]
        refine wpAnyH_take (i := 13) (oi := { dst := some 10, op := _, type := _, pos := _, after := _, guard := _ }) (v := .int .i64 e1) rfl (by kernel_rfl) (by kernel_rfl) (by kernel_rfl) (fun _ _ _ h => h) (Or.inl ⟨by rfl, ?_⟩) (by assumption) ?_
        · (intro w' hSw; (try dsimp only at hSw); go_simp; try rfl)
        simp only [Act.put, List.setIfInBounds_toArray, List.set_cons_zero, List.set_cons_succ]
        refine wpAnyH_done (by kernel_rfl) ?_ _
        go_wp2_with fail
        go_meet
        case rel => exact CutV9.mk9 (wqa.heap.size) ((sr0a, sr0n, sr0c), (sr1a, sr1n, sr1c), (sr2a, sr2n, sr2c), (sr3a, sr3n, sr3c)) rfl rfl rfl pX9.out (hO9.mem hfz) (bel_trans (by go_grown) bq)
    · skip
      go_simp
      have hal : Below wz1.drew.heap.size wz1.drew (wz1.drew.alloc (.cells #[.slice none 0 0, .slice none 0 0, .slice none 0 0, .slice none 0 0] 29)) := by go_grown
      have hgx : wz1.drew.heap.size ≤ wz1.drew.heap.size := bq.size
      have pX := Blk.new wz1.drew 29 [.slice none 0 0, .slice none 0 0, .slice none 0 0, .slice none 0 0]
      replace bq := bel_trans bq hal
      refine hK.out _ (wz1.drew.alloc (.cells #[.slice none 0 0, .slice none 0 0, .slice none 0 0, .slice none 0 0] 29)) ?_ (fun hSa => ?_)
      · exact ⟨cells_kept bq _ _ hS0.1, cells_kept bq _ _ hS0.2.1, cells_kept bq _ _ hS0.2.2.1, cells_kept bq _ _ hS0.2.2.2.1, cells_kept bq _ _ hS0.2.2.2.2⟩
      clear hK
      try simp only [Act.put, List.setIfInBounds_toArray, List.set_cons_zero, List.set_cons_succ]
      generalize (wz1.drew.alloc (.cells #[.slice none 0 0, .slice none 0 0, .slice none 0 0, .slice none 0 0] 29)) = wa at *
      clear hal hSa
      refine wpAnyH_ready (rs := [1]) (by kernel_rfl) (by simp) ?_
      refine AllReadyH.cons (o := { dst := some 34, op := _, type := _, pos := _, after := _, guard := _ }) rfl (fun K hK => ?_) AllReadyH.nil
      go_simp
      refine (kT0 _ (h0.below (bel_trans bd bq))).mono ?_
      rintro e wqa ⟨rfl, hO0, hq⟩
      have hc := hO0.codes
      replace pX := pX.below hq
      replace bq := bel_trans bq hq
      clear hq
      go_wp2_with fail
      refine hK.out _ _ ?_ (fun hSc => ?_)
      · exact ⟨cells_kept bq _ _ hS0.1, cells_kept bq _ _ hS0.2.1, cells_kept bq _ _ hS0.2.2.1, cells_kept bq _ _ hS0.2.2.2.1, cells_kept bq _ _ hS0.2.2.2.2⟩
      clear hK
      refine wpAnyH_ready (rs := [3]) (by kernel_rfl) (by simp) ?_
      refine AllReadyH.cons (o := { dst := some 36, op := _, type := _, pos := _, after := _, guard := _ }) rfl (fun K hK => ?_) AllReadyH.nil
      go_simp
      refine (kT1 _ (h1.below (bel_trans bd bq))).mono ?_
      rintro e wqb ⟨⟨t1, rfl, hO1⟩, hq⟩
      have hv := hO1.mem f1
      replace hc := hc.below hq
      replace pX := pX.below hq
      replace bq := bel_trans bq hq
      clear hq
      go_wp2_with fail
      refine hK.out _ _ ?_ (fun hSc => ?_)
      · exact ⟨cells_kept bq _ _ hS0.1, cells_kept bq _ _ hS0.2.1, cells_kept bq _ _ hS0.2.2.1, cells_kept bq _ _ hS0.2.2.2.1, cells_kept bq _ _ hS0.2.2.2.2⟩
      clear hK
      refine wpAnyH_ready (rs := [5]) (by kernel_rfl) (by simp) ?_
      refine AllReadyH.cons (o := { dst := some 38, op := _, type := _, pos := _, after := _, guard := _ }) rfl (fun K hK => ?_) AllReadyH.nil
      go_simp
      refine (kS _ _ _ t1 _ hc hv).mono ?_
      rintro e wqc ⟨⟨tr, rfl, hO⟩, hq⟩
      obtain ⟨⟨sr0a, sr0n, sr0c⟩, ⟨sr1a, sr1n, sr1c⟩, ⟨sr2a, sr2n, sr2c⟩, ⟨sr3a, sr3n, sr3c⟩⟩ := tr
      have uR : S4.val ((sr0a, sr0n, sr0c), (sr1a, sr1n, sr1c), (sr2a, sr2n, sr2c), (sr3a, sr3n, sr3c)) = .agg #[.slice sr0a sr0n sr0c, .slice sr1a sr1n sr1c, .slice sr2a sr2n sr2c, .slice sr3a sr3n sr3c] := rfl
      rw [uR]; clear uR hc hv
      have HO : Hid (OwnV wqc 0 ((sr0a, sr0n, sr0c), (sr1a, sr1n, sr1c), (sr2a, sr2n, sr2c), (sr3a, sr3n, sr3c)) z) := OwnV.lower9 hO (Nat.zero_le _)
      clear hO
      replace pX := pX.below hq
      replace bq := bel_trans bq hq
      clear hq
      go_wp2_with fail
      refine hK.out _ _ ?_ (fun hSc => ?_)
      · exact ⟨cells_kept bq _ _ hS0.1, cells_kept bq _ _ hS0.2.1, cells_kept bq _ _ hS0.2.2.1, cells_kept bq _ _ hS0.2.2.2.1, cells_kept bq _ _ hS0.2.2.2.2⟩
      clear hK
      refine wpAnyH_take (i := 6) (oi := { dst := some 32, op := _, type := _, pos := _, after := _, guard := _ }) (v := .tuple #[.agg #[.slice sr0a sr0n sr0c, .slice sr1a sr1n sr1c, .slice sr2a sr2n sr2c, .slice sr3a sr3n sr3c], .int .i64 e0, .int .i64 e1]) rfl (by kernel_rfl) (by kernel_rfl) (by kernel_rfl) (fun _ _ _ h => h) (Or.inl ⟨by rfl, ?_⟩) (by assumption) ?_
      · (intro w' hSw; (try dsimp only at hSw); go_simp; try rfl)
      simp only [Act.put, List.setIfInBounds_toArray, List.set_cons_zero, List.set_cons_succ]
      refine wpAnyH_take (i := 7) (oi := { dst := some 39, op := _, type := _, pos := _, after := _, guard := _ }) (v := .agg #[.slice sr0a sr0n sr0c, .slice sr1a sr1n sr1c, .slice sr2a sr2n sr2c, .slice sr3a sr3n sr3c]) rfl (by kernel_rfl) (by kernel_rfl) (by kernel_rfl) (fun _ _ _ h => h) (Or.inl ⟨by rfl, ?_⟩) (by assumption) ?_
      · (intro w' hSw; (try dsimp only at hSw); go_simp; try rfl)
      simp only [Act.put, List.setIfInBounds_toArray, List.set_cons_zero, List.set_cons_succ]
      refine wpAnyH_take (i := 8) (oi := { dst := some 40, op := _, type := _, pos := _, after := _, guard := _ }) (v := .int .i64 e0) rfl (by kernel_rfl) (by kernel_rfl) (by kernel_rfl) (fun _ _ _ h => h) (Or.inl ⟨by rfl, ?_⟩) (by assumption) ?_
      · (intro w' hSw; (try dsimp only at hSw); go_simp; try rfl)
      simp only [Act.put, List.setIfInBounds_toArray, List.set_cons_zero, List.set_cons_succ]
      refine wpAnyH_take (i := 9) (oi := { dst := some 41, op := _, type := _, pos := _, after := _, guard := _ }) (v := .int .i64 e1) rfl (by kernel_rfl) (by kernel_rfl) (by kernel_rfl) (fun _ _ _ h => h) (Or.inl ⟨by rfl, ?_⟩) (by assumption) ?_
      · (intro w' hSw; (try dsimp only at hSw); go_simp; try rfl)
      simp only [Act.put, List.setIfInBounds_toArray, List.set_cons_zero, List.set_cons_succ]
      refine wpAnyH_ready (rs := [11]) (by kernel_rfl) (by simp) ?_
      refine AllReadyH.cons (o := { dst := none, op := _, type := _, pos := _, after := _, guard := _ }) rfl (fun K hK => ?_) AllReadyH.nil
      refine step_store_blk9 rfl 29 _ _ rfl (wz1.drew.heap.size) [.slice sr0a sr0n sr0c, .slice sr1a sr1n sr1c, .slice sr2a sr2n sr2c, .slice sr3a sr3n sr3c] rfl rfl pX (by kernel_rfl) rfl rfl ?_
      intro w8 pX9 g9
      replace bq := bq.grown g9 bq.size (fun x hx => by cases hx; exact hgx)
      have hO9 := HO.out.kept9 g9 pX (by decide)
      refine hK.out _ _ ?_ (fun hSb => ?_)
      · exact ⟨cells_kept bq _ _ hS0.1, cells_kept bq _ _ hS0.2.1, cells_kept bq _ _ hS0.2.2.1, cells_kept bq _ _ hS0.2.2.2.1, cells_kept bq _ _ hS0.2.2.2.2⟩
      clear hK
      try simp only [Act.put, List.setIfInBounds_toArray, List.set_cons_zero, List.set_cons_succ]
      refine wpAnyH_take (i := 12) (oi := { dst := some 9, op := _, type := _, pos := _, after := _, guard := _ }) (v := .int .i64 e0) rfl (by kernel_rfl) (by kernel_rfl) (by kernel_rfl) (fun _ _ _ h => h) (Or.inl ⟨by rfl, ?_⟩) (by assumption) ?_
      · (intro w' hSw; (try dsimp only at hSw); go_simp; try rfl)
      simp only [Act.put, List.setIfInBounds_toArray, List.set_cons_zero, List.set_cons_succ]
      refine wpAnyH_take (i := 13) (oi := { dst := some 10, op := _, type := _, pos := _, after := _, guard := _ }) (v := .int .i64 e1) rfl (by kernel_rfl) (by kernel_rfl) (by kernel_rfl) (fun _ _ _ h => h) (Or.inl ⟨by rfl, ?_⟩) (by assumption) ?_
      · (intro w' hSw; (try dsimp only at hSw); go_simp; try rfl)
      simp only [Act.put, List.setIfInBounds_toArray, List.set_cons_zero, List.set_cons_succ]
      refine wpAnyH_done (by kernel_rfl) ?_ _
      go_wp2_with fail
      go_meet
      case rel => exact CutV9.mk9 (wz1.drew.heap.size) ((sr0a, sr0n, sr0c), (sr1a, sr1n, sr1c), (sr2a, sr2n, sr2c), (sr3a, sr3n, sr3c)) rfl rfl rfl pX9.out (hO9.mem hfz) (bel_trans (by go_grown) bq)
  obtain ⟨gRS, ⟨⟨sr0a, sr0n, sr0c⟩, ⟨sr1a, sr1n, sr1c⟩, ⟨sr2a, sr2n, sr2c⟩, ⟨sr3a, sr3n, sr3c⟩⟩, rfl, rfl, rfl, pRS, hR0, hbr⟩ := hcut
  rename World => wR
  dsimp only at pRS
  clear g0_0 g1_0 g1_1 g1_2 g1_3
  have cc := (p0.below hbr).cell 0
  simp only [List.getElem?_cons_zero] at cc
  go_wp2_with fail
  replace bw := bel_trans bw hbr
  replace p0 := p0.below hbr
  replace p1 := p1.below hbr
  clear hbr kS
  skip
  skip
  skip
  have bo : Below wR.heap.size wR wR := Below.refl _ _
  have hsz0 := bw.size
  refine (kO0 _ (h0.below bw)).mono ?_
  rintro e wx0 ⟨rfl, hX0, hb⟩
  replace bo := bel_trans bo hb
  have hB0 : wR.heap.size ≤ wR.heap.size + 3 := by omega
  generalize wR.heap.size + 3 = gg at *
  have hc1 : Below wR.heap.size wR (wx0.alloc (.cells #[.slice (some ⟨gg, 0, none⟩) n0 n0] 25)) := bel_trans bo (by go_grown)
  have bA : Below wx0.heap.size wx0 (wx0.alloc (.cells #[.slice (some ⟨gg, 0, none⟩) n0 n0] 25)) := by go_grown
  have pX0 := Blk.new wx0 25 [.slice (some ⟨gg, 0, none⟩) n0 n0]
  replace hX0 := hX0.below bA
  clear hb bA bo cc
  have bo := hc1
  clear hc1
  have q1 := (p1.below bo).cell 0
  have q2 := (p1.below bo).cell 1
  have q3 := (p1.below bo).cell 2
  have q4 := (p1.below bo).cell 3
  simp only [List.getElem?_cons_zero, List.getElem?_cons_succ] at q1 q2 q3 q4
  go_wp2_with fail
  generalize (wx0.alloc (.cells #[.slice (some ⟨gg, 0, none⟩) n0 n0] 25)) = wy0 at *
  generalize wx0.heap.size = GX0 at *
  refine (kT1 _ (h1.below (bel_trans bw bo))).mono ?_
  rintro e wx1 ⟨⟨⟨⟨e0a, e0n, e0c⟩, ⟨e1a, e1n, e1c⟩, ⟨e2a, e2n, e2c⟩, ⟨e3a, e3n, e3c⟩⟩, rfl, hX1⟩, hb⟩
  have uX : S4.val ((e0a, e0n, e0c), (e1a, e1n, e1c), (e2a, e2n, e2c), (e3a, e3n, e3c)) = .agg #[.slice e0a e0n e0c, .slice e1a e1n e1c, .slice e2a e2n e2c, .slice e3a e3n e3c] := rfl
  rw [uX]
  clear uX
  have hB1 : wR.heap.size ≤ wy0.heap.size := bo.size
  replace hX1 := OwnV.lower9 hX1 hB1
  have hy1 := hb.size
  have bA : Below wx1.heap.size wx1 (wx1.alloc (.cells #[.slice e0a e0n e0c, .slice e1a e1n e1c, .slice e2a e2n e2c, .slice e3a e3n e3c] 29)) := by go_grown
  have pX1 := Blk.new wx1 29 [.slice e0a e0n e0c, .slice e1a e1n e1c, .slice e2a e2n e2c, .slice e3a e3n e3c]
  replace bo := bel_trans bo (bel_trans hb bA)
  replace hX0 := hX0.below (bel_trans hb bA)
  replace pX0 := pX0.below (bel_trans hb bA)
  have hX1lt := hX1.blocks
  replace hX1 := hX1.below bA
  clear hb bA q1 q2 q3 q4
  have hXc := hX0.codes9 h0
  have hXv := hX1.mem f1
  have t0 := pX0.cell 0
  simp only [List.getElem?_cons_zero] at t0
  go_wp2_with fail
  generalize hWi : (wx1.alloc (.cells #[.slice e0a e0n e0c, .slice e1a e1n e1c, .slice e2a e2n e2c, .slice e3a e3n e3c] 29)) = wi at *
  have hlt1 : wx1.heap.size ≤ wi.heap.size := by rw [← hWi]; simp
  clear hWi
  generalize wx1.heap.size = GX1 at *
  refine (kI _ _ _ ((e0a, e0n, e0c), (e1a, e1n, e1c), (e2a, e2n, e2c), (e3a, e3n, e3c)) _ hXc hXv (hG0.below (bel_trans bw bo))).mono ?_
  rintro e wj ⟨⟨tr, rfl, hD⟩, hb⟩
  have hbj9 := hb.size
  obtain ⟨⟨gr0a, gr0n, gr0c⟩, ⟨gr1a, gr1n, gr1c⟩, ⟨gr2a, gr2n, gr2c⟩, ⟨gr3a, gr3n, gr3c⟩⟩ := tr
  have uR : S4.val ((gr0a, gr0n, gr0c), (gr1a, gr1n, gr1c), (gr2a, gr2n, gr2c), (gr3a, gr3n, gr3c)) = .agg #[.slice gr0a gr0n gr0c, .slice gr1a gr1n gr1c, .slice gr2a gr2n gr2c, .slice gr3a gr3n gr3c] := rfl
  rw [uR]; clear uR
  have hBj : wR.heap.size ≤ wi.heap.size := bo.size
  replace bo := bel_trans bo hb
  replace hX0 := hX0.below hb
  replace hX1 := hX1.below hb
  replace pX0 := pX0.below hb
  replace pX1 := pX1.below hb
  clear hb hXc hXv t0
  have hBJ9 : wi.heap.size ≤ wj.heap.size := hbj9
  generalize wi.heap.size = BJ at *
  have bA : Below wj.heap.size wj (wj.alloc (.cells #[.slice gr0a gr0n gr0c, .slice gr1a gr1n gr1c, .slice gr2a gr2n gr2c, .slice gr3a gr3n gr3c] 29)) := by go_grown
  have pG := Blk.new wj 29 [.slice gr0a gr0n gr0c, .slice gr1a gr1n gr1c, .slice gr2a gr2n gr2c, .slice gr3a gr3n gr3c]
  replace bo := bel_trans bo bA
  replace hX0 := hX0.below bA
  replace hX1 := hX1.below bA
  replace pX0 := pX0.below bA
  replace pX1 := pX1.below bA
  replace hD := hD.below bA
  clear bA
  have rs0 := (pRS.below bo).cell 0
  have rs1 := (pRS.below bo).cell 1
  have rs2 := (pRS.below bo).cell 2
  have rs3 := (pRS.below bo).cell 3
  simp only [List.getElem?_cons_zero, List.getElem?_cons_succ] at rs0 rs1 rs2 rs3
  go_wp2_with fail
  generalize (wj.alloc (.cells #[.slice gr0a gr0n gr0c, .slice gr1a gr1n gr1c, .slice gr2a gr2n gr2c, .slice gr3a gr3n gr3c] 29)) = wJ at *
  generalize wj.heap.size = GG at *
  have hne0 : (e0 != e0) = false := by simp
  have hne1 : (e1 != e1) = false := by simp
  refine (eqVm_same ((gr0a, gr0n, gr0c), (gr1a, gr1n, gr1c), (gr2a, gr2n, gr2c), (gr3a, gr3n, gr3c)) ((sr0a, sr0n, sr0c), (sr1a, sr1n, sr1c), (sr2a, sr2n, sr2c), (sr3a, sr3n, sr3c)) z _ (hD.mem hfz) (hR0.below bo)).mono ?_
  rintro e wk0 ⟨rfl, hb⟩
  replace bo := bel_trans bo hb
  replace hX0 := hX0.below hb
  replace hX1 := hX1.below hb
  replace pX0 := pX0.below hb
  replace pX1 := pX1.below hb
  replace hD := hD.below hb
  replace pG := pG.below hb
  clear hb rs0 rs1 rs2 rs3
  have cV0 := pX0.cell 0
  have cC0 := (p0.below bo).cell 0
  simp only [List.getElem?_cons_zero, List.getElem?_cons_succ] at cV0 cC0
  go_wp2_with fail
  have hP : Codes wk0.drew a0 n0 c0 r0 := h0.below (bel_trans (bel_trans bw bo) (by go_grown))
  have hV : Codes wk0.drew (some ⟨gg, 0, none⟩) n0 n0 r0 := (hX0.codes9 h0).below (by go_grown)
  have c8 : (fun w' : World => w'.cell? ⟨GX0, 0, none⟩ = some (.slice (some ⟨gg, 0, none⟩) n0 n0) ∧ w'.cell? ⟨w.heap.size, 0, none⟩ = some (.slice a0 n0 c0)) wk0 := ⟨cV0, cC0⟩
  clear cV0 cC0
  go_region_held3 (fun w' => w'.cell? ⟨GX0, 0, none⟩ = some (.slice (some ⟨gg, 0, none⟩) n0 n0) ∧ w'.cell? ⟨w.heap.size, 0, none⟩ = some (.slice a0 n0 c0)) (first | (exact c8) | (exact c9) | (exact ⟨cells_kept hl0 _ _ c9.1, cells_kept hl0 _ _ c9.2⟩))
    (first | (go_at_call 42; refine (kT0 _ hP).mono ?_; rintro e wk0' ⟨rfl, hOk, hk0⟩; have hD9 := hV.below hk0; have c9 := (show (fun w' : World => w'.cell? ⟨GX0, 0, none⟩ = some (.slice (some ⟨gg, 0, none⟩) n0 n0) ∧ w'.cell? ⟨w.heap.size, 0, none⟩ = some (.slice a0 n0 c0)) wk0' from ⟨cells_kept hk0 _ _ c8.1, cells_kept hk0 _ _ c8.2⟩)) | (go_at_call 44; refine (eqProgram_same _ _ _ _ _ r0 _ hD9 hOk.codes).mono ?_; rintro e wl0 ⟨rfl, hl0⟩))
  have hb : Below wk0.heap.size wk0 wl0 := bel_trans (by go_grown) (bel_trans hk0 hl0)
  replace bo := bel_trans bo hb
  replace hX0 := hX0.below hb
  replace hX1 := hX1.below hb
  replace pX0 := pX0.below hb
  replace pX1 := pX1.below hb
  replace hD := hD.below hb
  replace pG := pG.below hb
  clear hb hk0 hl0 hD9 hOk c8 c9 hP hV
  have cV0 := pX1.cell 0
  have cC0 := (p1.below bo).cell 0
  have cV1 := pX1.cell 1
  have cC1 := (p1.below bo).cell 1
  have cV2 := pX1.cell 2
  have cC2 := (p1.below bo).cell 2
  have cV3 := pX1.cell 3
  have cC3 := (p1.below bo).cell 3
  simp only [List.getElem?_cons_zero, List.getElem?_cons_succ] at cV0 cC0 cV1 cC1 cV2 cC2 cV3 cC3
  go_wp2_with fail
  have hP : Vmem wl0.drew ((a1_0, n1_0, c1_0), (a1_1, n1_1, c1_1), (a1_2, n1_2, c1_2), (a1_3, n1_3, c1_3)) m1 := h1.below (bel_trans (bel_trans bw bo) (by go_grown))
  have hV : Vmem wl0.drew ((e0a, e0n, e0c), (e1a, e1n, e1c), (e2a, e2n, e2c), (e3a, e3n, e3c)) m1 := (hX1.mem f1).below (by go_grown)
  have c8 : (fun w' : World => w'.cell? ⟨GX1, 0, none⟩ = some (.slice e0a e0n e0c) ∧ w'.cell? ⟨GX1, 1, none⟩ = some (.slice e1a e1n e1c) ∧ w'.cell? ⟨GX1, 2, none⟩ = some (.slice e2a e2n e2c) ∧ w'.cell? ⟨GX1, 3, none⟩ = some (.slice e3a e3n e3c) ∧ w'.cell? ⟨w.heap.size + 1, 0, none⟩ = some (.slice a1_0 n1_0 c1_0) ∧ w'.cell? ⟨w.heap.size + 1, 1, none⟩ = some (.slice a1_1 n1_1 c1_1) ∧ w'.cell? ⟨w.heap.size + 1, 2, none⟩ = some (.slice a1_2 n1_2 c1_2) ∧ w'.cell? ⟨w.heap.size + 1, 3, none⟩ = some (.slice a1_3 n1_3 c1_3)) wl0 := ⟨cV0, cV1, cV2, cV3, cC0, cC1, cC2, cC3⟩
  clear cV0 cC0 cV1 cC1 cV2 cC2 cV3 cC3
  go_region_held3 (fun w' => w'.cell? ⟨GX1, 0, none⟩ = some (.slice e0a e0n e0c) ∧ w'.cell? ⟨GX1, 1, none⟩ = some (.slice e1a e1n e1c) ∧ w'.cell? ⟨GX1, 2, none⟩ = some (.slice e2a e2n e2c) ∧ w'.cell? ⟨GX1, 3, none⟩ = some (.slice e3a e3n e3c) ∧ w'.cell? ⟨w.heap.size + 1, 0, none⟩ = some (.slice a1_0 n1_0 c1_0) ∧ w'.cell? ⟨w.heap.size + 1, 1, none⟩ = some (.slice a1_1 n1_1 c1_1) ∧ w'.cell? ⟨w.heap.size + 1, 2, none⟩ = some (.slice a1_2 n1_2 c1_2) ∧ w'.cell? ⟨w.heap.size + 1, 3, none⟩ = some (.slice a1_3 n1_3 c1_3)) (first | (exact c8) | (exact c9) | (exact ⟨cells_kept hl1 _ _ c9.1, cells_kept hl1 _ _ c9.2.1, cells_kept hl1 _ _ c9.2.2.1, cells_kept hl1 _ _ c9.2.2.2.1, cells_kept hl1 _ _ c9.2.2.2.2.1, cells_kept hl1 _ _ c9.2.2.2.2.2.1, cells_kept hl1 _ _ c9.2.2.2.2.2.2.1, cells_kept hl1 _ _ c9.2.2.2.2.2.2.2⟩))
    (first | (go_at_call 43; refine (kT1 _ hP).mono ?_; rintro e wk1' ⟨⟨sk1, rfl, hOk⟩, hk1⟩; have hD9 := hV.below hk1; have c9 := (show (fun w' : World => w'.cell? ⟨GX1, 0, none⟩ = some (.slice e0a e0n e0c) ∧ w'.cell? ⟨GX1, 1, none⟩ = some (.slice e1a e1n e1c) ∧ w'.cell? ⟨GX1, 2, none⟩ = some (.slice e2a e2n e2c) ∧ w'.cell? ⟨GX1, 3, none⟩ = some (.slice e3a e3n e3c) ∧ w'.cell? ⟨w.heap.size + 1, 0, none⟩ = some (.slice a1_0 n1_0 c1_0) ∧ w'.cell? ⟨w.heap.size + 1, 1, none⟩ = some (.slice a1_1 n1_1 c1_1) ∧ w'.cell? ⟨w.heap.size + 1, 2, none⟩ = some (.slice a1_2 n1_2 c1_2) ∧ w'.cell? ⟨w.heap.size + 1, 3, none⟩ = some (.slice a1_3 n1_3 c1_3)) wk1' from ⟨cells_kept hk1 _ _ c8.1, cells_kept hk1 _ _ c8.2.1, cells_kept hk1 _ _ c8.2.2.1, cells_kept hk1 _ _ c8.2.2.2.1, cells_kept hk1 _ _ c8.2.2.2.2.1, cells_kept hk1 _ _ c8.2.2.2.2.2.1, cells_kept hk1 _ _ c8.2.2.2.2.2.2.1, cells_kept hk1 _ _ c8.2.2.2.2.2.2.2⟩)) | (go_at_call 45; refine (eqVm_same ((e0a, e0n, e0c), (e1a, e1n, e1c), (e2a, e2n, e2c), (e3a, e3n, e3c)) sk1 m1 _ hD9 (hOk.mem f1)).mono ?_; rintro e wl1 ⟨rfl, hl1⟩))
  have hb : Below wl0.heap.size wl0 wl1 := bel_trans (by go_grown) (bel_trans hk1 hl1)
  replace bo := bel_trans bo hb
  replace hX0 := hX0.below hb
  replace hX1 := hX1.below hb
  replace pX0 := pX0.below hb
  replace pX1 := pX1.below hb
  replace hD := hD.below hb
  replace pG := pG.below hb
  clear hb hk1 hl1 hD9 hOk c8 c9 hP hV
  have hggs : gg ≤ wl1.heap.size := by
    obtain ⟨vs, h1, _⟩ := hX0
    exact Nat.le_of_lt (h1.lt gg rfl).2
  have KM := markProgram_own gg (.slice (some ⟨gg, 0, none⟩) n0 n0) 1 r0 wl1 (by omega) (by omega) hcl hcj HRJ.out hggs hX0
  generalize hcn : cntP r0 r0.length = cn at KM hcl
  clear hcn
  have t0 := pX0.cell 0
  simp only [List.getElem?_cons_zero] at t0
  go_wp2_with fail
  refine KM.mono ?_
  rintro e wm0 ⟨rfl, _, hK9, hb⟩
  replace bo := bo.trans (hb.mono hB0)
  replace hX1 := hX1.but9 hK9 (by decide)
  replace hD := hD.but9 hK9 (by decide)
  replace pX1 := hK9.blk9 pX1 (by decide)
  replace pG := hK9.blk9 pG (by decide)
  clear hK9 KM hX0 pX0 t0 hb hcj
  have hz0' : wR.heap.size ≤ wm0.heap.size := bo.size
  have KV := markVm_own wR.heap.size ((e0a, e0n, e0c), (e1a, e1n, e1c), (e2a, e2n, e2c), (e3a, e3n, e3c)) (1 + cn) m1 wm0 (by omega) (by omega) hX1 hz0' lm0 lm1 lm2 lm3
  have hcv : 0 ≤ cntV m1 := by unfold cntV; omega
  have hcv2 : cntV m1 ≤ 4194304 := by unfold cntV; omega
  generalize cntV m1 = cv at KV hcv hcv2
  have uX : S4.val ((e0a, e0n, e0c), (e1a, e1n, e1c), (e2a, e2n, e2c), (e3a, e3n, e3c)) = .agg #[.slice e0a e0n e0c, .slice e1a e1n e1c, .slice e2a e2n e2c, .slice e3a e3n e3c] := rfl
  rw [uX] at KV
  clear uX
  have t0 := pX1.cell 0
  have t1 := pX1.cell 1
  have t2 := pX1.cell 2
  have t3 := pX1.cell 3
  simp only [List.getElem?_cons_zero, List.getElem?_cons_succ] at t0 t1 t2 t3
  go_wp2_with fail
  refine KV.mono ?_
  rintro e wm1 ⟨rfl, _, hK9, hb⟩
  replace bo := bo.trans hb
  replace pG := pG.off9 hK9 hX1 (by decide)
  replace hD := hD.off9 hK9 (hX1lt.lt9 hlt1) (Nat.le_refl _)
  clear hK9 KV hX1 pX1 t0 t1 t2 t3 hb hX1lt
  have hkn : decide (1 + (cn : Int) + cv < 0) = false := by simp; omega
  have rs0 := (pRS.below bo).cell 0
  have rs1 := (pRS.below bo).cell 1
  have rs2 := (pRS.below bo).cell 2
  have rs3 := (pRS.below bo).cell 3
  have gs0 := pG.cell 0
  have gs1 := pG.cell 1
  have gs2 := pG.cell 2
  have gs3 := pG.cell 3
  simp only [List.getElem?_cons_zero, List.getElem?_cons_succ] at rs0 rs1 rs2 rs3 gs0 gs1 gs2 gs3
  go_wp2_with fail
  refine (eqVm_same ((gr0a, gr0n, gr0c), (gr1a, gr1n, gr1c), (gr2a, gr2n, gr2c), (gr3a, gr3n, gr3c)) ((sr0a, sr0n, sr0c), (sr1a, sr1n, sr1c), (sr2a, sr2n, sr2c), (sr3a, sr3n, sr3c)) z _ (hD.mem hfz) (hR0.below bo)).mono ?_
  rintro e wn0 ⟨rfl, hb⟩
  replace bo := bel_trans bo hb
  replace hD := hD.below hb
  replace pG := pG.below hb
  clear hb rs0 rs1 rs2 rs3 gs0 gs1 gs2 gs3
  have hlz := hlz9
  have hBJ : BJ ≤ wn0.heap.size := Nat.le_trans hBJ9 (Nat.le_of_lt pG.lt)
  have KG := markVm_own BJ ((gr0a, gr0n, gr0c), (gr1a, gr1n, gr1c), (gr2a, gr2n, gr2c), (gr3a, gr3n, gr3c)) 1 z wn0 (by omega) (by omega) hD hBJ hlz.1 hlz.2.1 hlz.2.2.1 hlz.2.2.2
  have hcz : 0 ≤ cntV z := by unfold cntV; omega
  have HH := fun (W : World) (hO : OwnV W BJ ((gr0a, gr0n, gr0c), (gr1a, gr1n, gr1c), (gr2a, gr2n, gr2c), (gr3a, gr3n, gr3c)) (mkV 1 z)) => heldVm_own9 ((gr0a, gr0n, gr0c), (gr1a, gr1n, gr1c), (gr2a, gr2n, gr2c), (gr3a, gr3n, gr3c)) z W BJ hO hlz
  generalize cntV z = cz at *
  have uX : S4.val ((gr0a, gr0n, gr0c), (gr1a, gr1n, gr1c), (gr2a, gr2n, gr2c), (gr3a, gr3n, gr3c)) = .agg #[.slice gr0a gr0n gr0c, .slice gr1a gr1n gr1c, .slice gr2a gr2n gr2c, .slice gr3a gr3n gr3c] := rfl
  rw [uX] at KG HH
  clear uX
  have gs0 := pG.cell 0
  have gs1 := pG.cell 1
  have gs2 := pG.cell 2
  have gs3 := pG.cell 3
  simp only [List.getElem?_cons_zero, List.getElem?_cons_succ] at gs0 gs1 gs2 gs3
  go_wp2_with fail
  refine KG.mono ?_
  rintro e wo0 ⟨rfl, hD2, hK9, hb⟩
  replace bo := bo.trans (hb.mono hBj)
  replace pG := pG.off9 hK9 hD (by decide)
  clear hK9 hb hD gs0 gs1 gs2 gs3 KG
  have gs0 := pG.cell 0
  have gs1 := pG.cell 1
  have gs2 := pG.cell 2
  have gs3 := pG.cell 3
  simp only [List.getElem?_cons_zero, List.getElem?_cons_succ] at gs0 gs1 gs2 gs3
  have hq : ¬ ((1 : Int) + cz < 0) := by omega
  have hq' : (((1 : Int) + cz) != ((1 : Int) + cz)) = false := by simp
  go_wp2_with fail
  refine (HH _ hD2).mono ?_
  rintro e wo1 ⟨rfl, hb⟩
  replace bo := bel_trans bo hb
  replace hD2 := hD2.below hb
  replace pG := pG.below hb
  clear hb gs0 gs1 gs2 gs3
  have bwo : Below w.heap.size w wo1 := bel_trans bw bo
  have g0_0 := (p0.below bo).cell 0
  have g1_0 := (p1.below bo).cell 0
  have g1_1 := (p1.below bo).cell 1
  have g1_2 := (p1.below bo).cell 2
  have g1_3 := (p1.below bo).cell 3
  simp only [List.getElem?_cons_zero, List.getElem?_cons_succ] at g0_0 g1_0 g1_1 g1_2 g1_3
  go_wp2_with fail
  go_cut [19, 20, 21] from 22 (fun s19 s20 s21 W => CutV9 wo1 z e0 e1 s19 s20 s21 W)
  case first =>
    have bd : Below w.heap.size w wo1.drew := bel_trans bwo (by go_grown)
    refine wp_region_held_drew (S := (fun w' => w'.cell? ⟨w.heap.size, 0, none⟩ = some (.slice a0 n0 c0) ∧ w'.cell? ⟨w.heap.size + 1, 0, none⟩ = some (.slice a1_0 n1_0 c1_0) ∧ w'.cell? ⟨w.heap.size + 1, 1, none⟩ = some (.slice a1_1 n1_1 c1_1) ∧ w'.cell? ⟨w.heap.size + 1, 2, none⟩ = some (.slice a1_2 n1_2 c1_2) ∧ w'.cell? ⟨w.heap.size + 1, 3, none⟩ = some (.slice a1_3 n1_3 c1_3))) (by kernel_rfl) ⟨g0_0, g1_0, g1_1, g1_2, g1_3⟩ (fun hS0 => ?_)
    have bq : Below wo1.drew.heap.size wo1.drew wo1.drew := Below.refl _ _
    refine wpAnyH_take (i := 0) (oi := { dst := some 114, op := _, type := _, pos := _, after := _, guard := _ }) (v := .agg #[.slice a0 n0 c0]) rfl (by kernel_rfl) (by kernel_rfl) (by kernel_rfl) (fun _ _ _ h => h) (Or.inl ⟨by rfl, ?_⟩) (by assumption) ?_
    · (intro w' hSw; (try dsimp only at hSw); go_simp; try rfl)
    simp only [Act.put, List.setIfInBounds_toArray, List.set_cons_zero, List.set_cons_succ]
    refine wpAnyH_take (i := 2) (oi := { dst := some 116, op := _, type := _, pos := _, after := _, guard := _ }) (v := .agg #[.slice a1_0 n1_0 c1_0, .slice a1_1 n1_1 c1_1, .slice a1_2 n1_2 c1_2, .slice a1_3 n1_3 c1_3]) rfl (by kernel_rfl) (by kernel_rfl) (by kernel_rfl) (fun _ _ _ h => h) (Or.inl ⟨by rfl, ?_⟩) (by assumption) ?_
    · (intro w' hSw; (try dsimp only at hSw); go_simp; try rfl)
    simp only [Act.put, List.setIfInBounds_toArray, List.set_cons_zero, List.set_cons_succ]
    refine wpAnyH_take (i := 4) (oi := { dst := some 118, op := _, type := _, pos := _, after := _, guard := _ }) (v := .int .i64 i2) rfl (by kernel_rfl) (by kernel_rfl) (by kernel_rfl) (fun _ _ _ h => h) (Or.inl ⟨by rfl, ?_⟩) (by assumption) ?_
    · (intro w' hSw; (try dsimp only at hSw); go_simp; try rfl)
    simp only [Act.put, List.setIfInBounds_toArray, List.set_cons_zero, List.set_cons_succ]
    refine wpAnyH_ready (rs := [1, 10]) (by kernel_rfl) (by simp) ?_
    refine AllReadyH.cons (o := { dst := some 115, op := _, type := _, pos := _, after := _, guard := _ }) rfl (fun K hK => ?_) (AllReadyH.cons (o := { dst := some 19, op := _, type := _, pos := _, after := _, guard := _ }) rfl (fun K hK => ?_) AllReadyH.nil)
    · skip
      go_simp
      refine (kT0 _ (h0.below (bel_trans bd bq))).mono ?_
      rintro e wqa ⟨rfl, hO0, hq⟩
      have hc := hO0.codes
      replace bq := bel_trans bq hq
      clear hq
      go_wp2_with fail
      refine hK.out _ _ ?_ (fun hSc => ?_)
      · exact ⟨cells_kept bq _ _ hS0.1, cells_kept bq _ _ hS0.2.1, cells_kept bq _ _ hS0.2.2.1, cells_kept bq _ _ hS0.2.2.2.1, cells_kept bq _ _ hS0.2.2.2.2⟩
      clear hK
      refine wpAnyH_ready (rs := [3, 10]) (by kernel_rfl) (by simp) ?_
      refine AllReadyH.cons (o := { dst := some 117, op := _, type := _, pos := _, after := _, guard := _ }) rfl (fun K hK => ?_) (AllReadyH.cons (o := { dst := some 19, op := _, type := _, pos := _, after := _, guard := _ }) rfl (fun K hK => ?_) AllReadyH.nil)
      · skip
        go_simp
        refine (kT1 _ (h1.below (bel_trans bd bq))).mono ?_
        rintro e wqb ⟨⟨t1, rfl, hO1⟩, hq⟩
        have hv := hO1.mem f1
        replace hc := hc.below hq
        replace bq := bel_trans bq hq
        clear hq
        go_wp2_with fail
        refine hK.out _ _ ?_ (fun hSc => ?_)
        · exact ⟨cells_kept bq _ _ hS0.1, cells_kept bq _ _ hS0.2.1, cells_kept bq _ _ hS0.2.2.1, cells_kept bq _ _ hS0.2.2.2.1, cells_kept bq _ _ hS0.2.2.2.2⟩
        clear hK
        refine wpAnyH_ready (rs := [5, 10]) (by kernel_rfl) (by simp) ?_
        refine AllReadyH.cons (o := { dst := some 119, op := _, type := _, pos := _, after := _, guard := _ }) rfl (fun K hK => ?_) (AllReadyH.cons (o := { dst := some 19, op := _, type := _, pos := _, after := _, guard := _ }) rfl (fun K hK => ?_) AllReadyH.nil)
        · skip
          go_simp
          refine (kI _ _ _ t1 _ hc hv (hG0.below (bel_trans bd bq))).mono ?_
          rintro e wqc ⟨⟨tr, rfl, hO⟩, hq⟩
          obtain ⟨⟨hr0a, hr0n, hr0c⟩, ⟨hr1a, hr1n, hr1c⟩, ⟨hr2a, hr2n, hr2c⟩, ⟨hr3a, hr3n, hr3c⟩⟩ := tr
          have uR : S4.val ((hr0a, hr0n, hr0c), (hr1a, hr1n, hr1c), (hr2a, hr2n, hr2c), (hr3a, hr3n, hr3c)) = .agg #[.slice hr0a hr0n hr0c, .slice hr1a hr1n hr1c, .slice hr2a hr2n hr2c, .slice hr3a hr3n hr3c] := rfl
          rw [uR]; clear uR hc hv
          have HO : Hid (OwnV wqc 0 ((hr0a, hr0n, hr0c), (hr1a, hr1n, hr1c), (hr2a, hr2n, hr2c), (hr3a, hr3n, hr3c)) z) := OwnV.lower9 hO (Nat.zero_le _)
          clear hO
          replace bq := bel_trans bq hq
          clear hq
          go_wp2_with fail
          refine hK.out _ _ ?_ (fun hSc => ?_)
          · exact ⟨cells_kept bq _ _ hS0.1, cells_kept bq _ _ hS0.2.1, cells_kept bq _ _ hS0.2.2.1, cells_kept bq _ _ hS0.2.2.2.1, cells_kept bq _ _ hS0.2.2.2.2⟩
          clear hK
          refine wpAnyH_take (i := 6) (oi := { dst := some 113, op := _, type := _, pos := _, after := _, guard := _ }) (v := .tuple #[.agg #[.slice hr0a hr0n hr0c, .slice hr1a hr1n hr1c, .slice hr2a hr2n hr2c, .slice hr3a hr3n hr3c], .int .i64 e0, .int .i64 e1]) rfl (by kernel_rfl) (by kernel_rfl) (by kernel_rfl) (fun _ _ _ h => h) (Or.inl ⟨by rfl, ?_⟩) (by assumption) ?_
          · (intro w' hSw; (try dsimp only at hSw); go_simp; try rfl)
          simp only [Act.put, List.setIfInBounds_toArray, List.set_cons_zero, List.set_cons_succ]
          refine wpAnyH_take (i := 7) (oi := { dst := some 120, op := _, type := _, pos := _, after := _, guard := _ }) (v := .agg #[.slice hr0a hr0n hr0c, .slice hr1a hr1n hr1c, .slice hr2a hr2n hr2c, .slice hr3a hr3n hr3c]) rfl (by kernel_rfl) (by kernel_rfl) (by kernel_rfl) (fun _ _ _ h => h) (Or.inl ⟨by rfl, ?_⟩) (by assumption) ?_
          · (intro w' hSw; (try dsimp only at hSw); go_simp; try rfl)
          simp only [Act.put, List.setIfInBounds_toArray, List.set_cons_zero, List.set_cons_succ]
          refine wpAnyH_take (i := 8) (oi := { dst := some 121, op := _, type := _, pos := _, after := _, guard := _ }) (v := .int .i64 e0) rfl (by kernel_rfl) (by kernel_rfl) (by kernel_rfl) (fun _ _ _ h => h) (Or.inl ⟨by rfl, ?_⟩) (by assumption) ?_
          · (intro w' hSw; (try dsimp only at hSw); go_simp; try rfl)
          simp only [Act.put, List.setIfInBounds_toArray, List.set_cons_zero, List.set_cons_succ]
          refine wpAnyH_take (i := 9) (oi := { dst := some 122, op := _, type := _, pos := _, after := _, guard := _ }) (v := .int .i64 e1) rfl (by kernel_rfl) (by kernel_rfl) (by kernel_rfl) (fun _ _ _ h => h) (Or.inl ⟨by rfl, ?_⟩) (by assumption) ?_
          · (intro w' hSw; (try dsimp only at hSw); go_simp; try rfl)
          simp only [Act.put, List.setIfInBounds_toArray, List.set_cons_zero, List.set_cons_succ]
          refine wpAnyH_ready (rs := [10]) (by kernel_rfl) (by simp) ?_
          refine AllReadyH.cons (o := { dst := some 19, op := _, type := _, pos := _, after := _, guard := _ }) rfl (fun K hK => ?_) AllReadyH.nil
          go_simp
          have hal : Below wqc.heap.size wqc (wqc.alloc (.cells #[.slice none 0 0, .slice none 0 0, .slice none 0 0, .slice none 0 0] 29)) := by go_grown
          have hgx : wo1.drew.heap.size ≤ wqc.heap.size := bq.size
          have pX := Blk.new wqc 29 [.slice none 0 0, .slice none 0 0, .slice none 0 0, .slice none 0 0]
          replace bq := bel_trans bq hal
          refine hK.out _ (wqc.alloc (.cells #[.slice none 0 0, .slice none 0 0, .slice none 0 0, .slice none 0 0] 29)) ?_ (fun hSa => ?_)
          · exact ⟨cells_kept bq _ _ hS0.1, cells_kept bq _ _ hS0.2.1, cells_kept bq _ _ hS0.2.2.1, cells_kept bq _ _ hS0.2.2.2.1, cells_kept bq _ _ hS0.2.2.2.2⟩
          clear hK
          try simp only [Act.put, List.setIfInBounds_toArray, List.set_cons_zero, List.set_cons_succ]
          generalize (wqc.alloc (.cells #[.slice none 0 0, .slice none 0 0, .slice none 0 0, .slice none 0 0] 29)) = wa at *
          replace HO := Hid.mk9 (HO.out.below hal)
          clear hal hSa
          refine wpAnyH_ready (rs := [11]) (by kernel_rfl) (by simp) ?_
          refine AllReadyH.cons (o := { dst := none, op := _, type := _, pos := _, after := _, guard := _ }) rfl (fun K hK => ?_) AllReadyH.nil
          refine step_store_blk9 rfl 29 _ _ rfl (wqc.heap.size) [.slice hr0a hr0n hr0c, .slice hr1a hr1n hr1c, .slice hr2a hr2n hr2c, .slice hr3a hr3n hr3c] rfl rfl pX (by kernel_rfl) rfl rfl ?_
          intro w8 pX9 g9
          replace bq := bq.grown g9 bq.size (fun x hx => by cases hx; exact hgx)
          have hO9 := HO.out.kept9 g9 pX (by decide)
          refine hK.out _ _ ?_ (fun hSb => ?_)
          · exact ⟨cells_kept bq _ _ hS0.1, cells_kept bq _ _ hS0.2.1, cells_kept bq _ _ hS0.2.2.1, cells_kept bq _ _ hS0.2.2.2.1, cells_kept bq _ _ hS0.2.2.2.2⟩
          clear hK
          try simp only [Act.put, List.setIfInBounds_toArray, List.set_cons_zero, List.set_cons_succ]
          refine wpAnyH_take (i := 12) (oi := { dst := some 20, op := _, type := _, pos := _, after := _, guard := _ }) (v := .int .i64 e0) rfl (by kernel_rfl) (by kernel_rfl) (by kernel_rfl) (fun _ _ _ h => h) (Or.inl ⟨by rfl, ?_⟩) (by assumption) ?_
          · (intro w' hSw; (try dsimp only at hSw); go_simp; try rfl)
          simp only [Act.put, List.setIfInBounds_toArray, List.set_cons_zero, List.set_cons_succ]
          refine wpAnyH_take (i := 13) (oi := { dst := some 21, op := _, type := _, pos := _, after := _, guard := _ }) (v := .int .i64 e1) rfl (by kernel_rfl) (by kernel_rfl) (by kernel_rfl) (fun _ _ _ h => h) (Or.inl ⟨by rfl, ?_⟩) (by assumption) ?_
          · (intro w' hSw; (try dsimp only at hSw); go_simp; try rfl)
          simp only [Act.put, List.setIfInBounds_toArray, List.set_cons_zero, List.set_cons_succ]
          refine wpAnyH_done (by kernel_rfl) ?_ _
          go_wp2_with fail
          go_meet
          case rel => exact CutV9.mk9 (wqc.heap.size) ((hr0a, hr0n, hr0c), (hr1a, hr1n, hr1c), (hr2a, hr2n, hr2c), (hr3a, hr3n, hr3c)) rfl rfl rfl pX9.out (hO9.mem hfz) (bel_trans (by go_grown) bq)
        · skip
          go_simp
          have hal : Below wqb.heap.size wqb (wqb.alloc (.cells #[.slice none 0 0, .slice none 0 0, .slice none 0 0, .slice none 0 0] 29)) := by go_grown
          have hgx : wo1.drew.heap.size ≤ wqb.heap.size := bq.size
          have pX := Blk.new wqb 29 [.slice none 0 0, .slice none 0 0, .slice none 0 0, .slice none 0 0]
          replace bq := bel_trans bq hal
          refine hK.out _ (wqb.alloc (.cells #[.slice none 0 0, .slice none 0 0, .slice none 0 0, .slice none 0 0] 29)) ?_ (fun hSa => ?_)
          · exact ⟨cells_kept bq _ _ hS0.1, cells_kept bq _ _ hS0.2.1, cells_kept bq _ _ hS0.2.2.1, cells_kept bq _ _ hS0.2.2.2.1, cells_kept bq _ _ hS0.2.2.2.2⟩
          clear hK
          try simp only [Act.put, List.setIfInBounds_toArray, List.set_cons_zero, List.set_cons_succ]
          generalize (wqb.alloc (.cells #[.slice none 0 0, .slice none 0 0, .slice none 0 0, .slice none 0 0] 29)) = wa at *
          replace hc := hc.below hal
          replace hv := hv.below hal
          clear hal hSa
          refine wpAnyH_ready (rs := [5]) (by kernel_rfl) (by simp) ?_
          refine AllReadyH.cons (o := { dst := some 119, op := _, type := _, pos := _, after := _, guard := _ }) rfl (fun K hK => ?_) AllReadyH.nil
          go_simp
          refine (kI _ _ _ t1 _ hc hv (hG0.below (bel_trans bd bq))).mono ?_
          rintro e wqc ⟨⟨tr, rfl, hO⟩, hq⟩
          obtain ⟨⟨hr0a, hr0n, hr0c⟩, ⟨hr1a, hr1n, hr1c⟩, ⟨hr2a, hr2n, hr2c⟩, ⟨hr3a, hr3n, hr3c⟩⟩ := tr
          have uR : S4.val ((hr0a, hr0n, hr0c), (hr1a, hr1n, hr1c), (hr2a, hr2n, hr2c), (hr3a, hr3n, hr3c)) = .agg #[.slice hr0a hr0n hr0c, .slice hr1a hr1n hr1c, .slice hr2a hr2n hr2c, .slice hr3a hr3n hr3c] := rfl
          rw [uR]; clear uR hc hv
          have HO : Hid (OwnV wqc 0 ((hr0a, hr0n, hr0c), (hr1a, hr1n, hr1c), (hr2a, hr2n, hr2c), (hr3a, hr3n, hr3c)) z) := OwnV.lower9 hO (Nat.zero_le _)
          clear hO
          replace pX := pX.below hq
          replace bq := bel_trans bq hq
          clear hq
          go_wp2_with fail
          refine hK.out _ _ ?_ (fun hSc => ?_)
          · exact ⟨cells_kept bq _ _ hS0.1, cells_kept bq _ _ hS0.2.1, cells_kept bq _ _ hS0.2.2.1, cells_kept bq _ _ hS0.2.2.2.1, cells_kept bq _ _ hS0.2.2.2.2⟩
          clear hK
          refine wpAnyH_take (i := 6) (oi := { dst := some 113, op := _, type := _, pos := _, after := _, guard := _ }) (v := .tuple #[.agg #[.slice hr0a hr0n hr0c, .slice hr1a hr1n hr1c, .slice hr2a hr2n hr2c, .slice hr3a hr3n hr3c], .int .i64 e0, .int .i64 e1]) rfl (by kernel_rfl) (by kernel_rfl) (by kernel_rfl) (fun _ _ _ h => h) (Or.inl ⟨by rfl, ?_⟩) (by assumption) ?_
          · (intro w' hSw; (try dsimp only at hSw); go_simp; try rfl)
          simp only [Act.put, List.setIfInBounds_toArray, List.set_cons_zero, List.set_cons_succ]
          refine wpAnyH_take (i := 7) (oi := { dst := some 120, op := _, type := _, pos := _, after := _, guard := _ }) (v := .agg #[.slice hr0a hr0n hr0c, .slice hr1a hr1n hr1c, .slice hr2a hr2n hr2c, .slice hr3a hr3n hr3c]) rfl (by kernel_rfl) (by kernel_rfl) (by kernel_rfl) (fun _ _ _ h => h) (Or.inl ⟨by rfl, ?_⟩) (by assumption) ?_
          · (intro w' hSw; (try dsimp only at hSw); go_simp; try rfl)
          simp only [Act.put, List.setIfInBounds_toArray, List.set_cons_zero, List.set_cons_succ]
          refine wpAnyH_take (i := 8) (oi := { dst := some 121, op := _, type := _, pos := _, after := _, guard := _ }) (v := .int .i64 e0) rfl (by kernel_rfl) (by kernel_rfl) (by kernel_rfl) (fun _ _ _ h => h) (Or.inl ⟨by rfl, ?_⟩) (by assumption) ?_
          · (intro w' hSw; (try dsimp only at hSw); go_simp; try rfl)
          simp only [Act.put, List.setIfInBounds_toArray, List.set_cons_zero, List.set_cons_succ]
          refine wpAnyH_take (i := 9) (oi := { dst := some 122, op := _, type := _, pos := _, after := _, guard := _ }) (v := .int .i64 e1) rfl (by kernel_rfl) (by kernel_rfl) (by kernel_rfl) (fun _ _ _ h => h) (Or.inl ⟨by rfl, ?_⟩) (by assumption) ?_
          · (intro w' hSw; (try dsimp only at hSw); go_simp; try rfl)
          simp only [Act.put, List.setIfInBounds_toArray, List.set_cons_zero, List.set_cons_succ]
          refine wpAnyH_ready (rs := [11]) (by kernel_rfl) (by simp) ?_
          refine AllReadyH.cons (o := { dst := none, op := _, type := _, pos := _, after := _, guard := _ }) rfl (fun K hK => ?_) AllReadyH.nil
          refine step_store_blk9 rfl 29 _ _ rfl (wqb.heap.size) [.slice hr0a hr0n hr0c, .slice hr1a hr1n hr1c, .slice hr2a hr2n hr2c, .slice hr3a hr3n hr3c] rfl rfl pX (by kernel_rfl) rfl rfl ?_
          intro w8 pX9 g9
          replace bq := bq.grown g9 bq.size (fun x hx => by cases hx; exact hgx)
          have hO9 := HO.out.kept9 g9 pX (by decide)
          refine hK.out _ _ ?_ (fun hSb => ?_)
          · exact ⟨cells_kept bq _ _ hS0.1, cells_kept bq _ _ hS0.2.1, cells_kept bq _ _ hS0.2.2.1, cells_kept bq _ _ hS0.2.2.2.1, cells_kept bq _ _ hS0.2.2.2.2⟩
          clear hK
          try simp only [Act.put, List.setIfInBounds_toArray, List.set_cons_zero, List.set_cons_succ]
          refine wpAnyH_take (i := 12) (oi := { dst := some 20, op := _, type := _, pos := _, after := _, guard := _ }) (v := .int .i64 e0) rfl (by kernel_rfl) (by kernel_rfl) (by kernel_rfl) (fun _ _ _ h => h) (Or.inl ⟨by rfl, ?_⟩) (by assumption) ?_
          · (intro w' hSw; (try dsimp only at hSw); go_simp; try rfl)
          simp only [Act.put, List.setIfInBounds_toArray, List.set_cons_zero, List.set_cons_succ]
          refine wpAnyH_take (i := 13) (oi := { dst := some 21, op := _, type := _, pos := _, after := _, guard := _ }) (v := .int .i64 e1) rfl (by kernel_rfl) (by kernel_rfl) (by kernel_rfl) (fun _ _ _ h => h) (Or.inl ⟨by rfl, ?_⟩) (by assumption) ?_
          · (intro w' hSw; (try dsimp only at hSw); go_simp; try rfl)
          simp only [Act.put, List.setIfInBounds_toArray, List.set_cons_zero, List.set_cons_succ]
          refine wpAnyH_done (by kernel_rfl) ?_ _
          go_wp2_with fail
          go_meet
          case rel => exact CutV9.mk9 (wqb.heap.size) ((hr0a, hr0n, hr0c), (hr1a, hr1n, hr1c), (hr2a, hr2n, hr2c), (hr3a, hr3n, hr3c)) rfl rfl rfl pX9.out (hO9.mem hfz) (bel_trans (by go_grown) bq)
      · skip
        go_simp
        have hal : Below wqa.heap.size wqa (wqa.alloc (.cells #[.slice none 0 0, .slice none 0 0, .slice none 0 0, .slice none 0 0] 29)) := by go_grown
        have hgx : wo1.drew.heap.size ≤ wqa.heap.size := bq.size
        have pX := Blk.new wqa 29 [.slice none 0 0, .slice none 0 0, .slice none 0 0, .slice none 0 0]
        replace bq := bel_trans bq hal
        refine hK.out _ (wqa.alloc (.cells #[.slice none 0 0, .slice none 0 0, .slice none 0 0, .slice none 0 0] 29)) ?_ (fun hSa => ?_)
        · exact ⟨cells_kept bq _ _ hS0.1, cells_kept bq _ _ hS0.2.1, cells_kept bq _ _ hS0.2.2.1, cells_kept bq _ _ hS0.2.2.2.1, cells_kept bq _ _ hS0.2.2.2.2⟩
        clear hK
        try simp only [Act.put, List.setIfInBounds_toArray, List.set_cons_zero, List.set_cons_succ]
        generalize (wqa.alloc (.cells #[.slice none 0 0, .slice none 0 0, .slice none 0 0, .slice none 0 0] 29)) = wa at *
        replace hc := hc.below hal
        clear hal hSa
        refine wpAnyH_ready (rs := [3]) (by kernel_rfl) (by simp) ?_
        refine AllReadyH.cons (o := { dst := some 117, op := _, type := _, pos := _, after := _, guard := _ }) rfl (fun K hK => ?_) AllReadyH.nil
        go_simp
        refine (kT1 _ (h1.below (bel_trans bd bq))).mono ?_
        rintro e wqb ⟨⟨t1, rfl, hO1⟩, hq⟩
        have hv := hO1.mem f1
        replace hc := hc.below hq
        replace pX := pX.below hq
        replace bq := bel_trans bq hq
        clear hq
        go_wp2_with fail
        refine hK.out _ _ ?_ (fun hSc => ?_)
        · exact ⟨cells_kept bq _ _ hS0.1, cells_kept bq _ _ hS0.2.1, cells_kept bq _ _ hS0.2.2.1, cells_kept bq _ _ hS0.2.2.2.1, cells_kept bq _ _ hS0.2.2.2.2⟩
        clear hK
        refine wpAnyH_ready (rs := [5]) (by kernel_rfl) (by simp) ?_
        refine AllReadyH.cons (o := { dst := some 119, op := _, type := _, pos := _, after := _, guard := _ }) rfl (fun K hK => ?_) AllReadyH.nil
        go_simp
        refine (kI _ _ _ t1 _ hc hv (hG0.below (bel_trans bd bq))).mono ?_
        rintro e wqc ⟨⟨tr, rfl, hO⟩, hq⟩
        obtain ⟨⟨hr0a, hr0n, hr0c⟩, ⟨hr1a, hr1n, hr1c⟩, ⟨hr2a, hr2n, hr2c⟩, ⟨hr3a, hr3n, hr3c⟩⟩ := tr
        have uR : S4.val ((hr0a, hr0n, hr0c), (hr1a, hr1n, hr1c), (hr2a, hr2n, hr2c), (hr3a, hr3n, hr3c)) = .agg #[.slice hr0a hr0n hr0c, .slice hr1a hr1n hr1c, .slice hr2a hr2n hr2c, .slice hr3a hr3n hr3c] := rfl
        rw [uR]; clear uR hc hv
        have HO : Hid (OwnV wqc 0 ((hr0a, hr0n, hr0c), (hr1a, hr1n, hr1c), (hr2a, hr2n, hr2c), (hr3a, hr3n, hr3c)) z) := OwnV.lower9 hO (Nat.zero_le _)
        clear hO
        replace pX := pX.below hq
        replace bq := bel_trans bq hq
        clear hq
        go_wp2_with fail
        refine hK.out _ _ ?_ (fun hSc => ?_)
        · exact ⟨cells_kept bq _ _ hS0.1, cells_kept bq _ _ hS0.2.1, cells_kept bq _ _ hS0.2.2.1, cells_kept bq _ _ hS0.2.2.2.1, cells_kept bq _ _ hS0.2.2.2.2⟩
        clear hK
        refine wpAnyH_take (i := 6) (oi := { dst := some 113, op := _, type := _, pos := _, after := _, guard := _ }) (v := .tuple #[.agg #[.slice hr0a hr0n hr0c, .slice hr1a hr1n hr1c, .slice hr2a hr2n hr2c, .slice hr3a hr3n hr3c], .int .i64 e0, .int .i64 e1]) rfl (by kernel_rfl) (by kernel_rfl) (by kernel_rfl) (fun _ _ _ h => h) (Or.inl ⟨by rfl, ?_⟩) (by assumption) ?_
        · (intro w' hSw; (try dsimp only at hSw); go_simp; try rfl)
        simp only [Act.put, List.setIfInBounds_toArray, List.set_cons_zero, List.set_cons_succ]
        refine wpAnyH_take (i := 7) (oi := { dst := some 120, op := _, type := _, pos := _, after := _, guard := _ }) (v := .agg #[.slice hr0a hr0n hr0c, .slice hr1a hr1n hr1c, .slice hr2a hr2n hr2c, .slice hr3a hr3n hr3c]) rfl (by kernel_rfl) (by kernel_rfl) (by kernel_rfl) (fun _ _ _ h => h) (Or.inl ⟨by rfl, ?_⟩) (by assumption) ?_
        · (intro w' hSw; (try dsimp only at hSw); go_simp; try rfl)
        simp only [Act.put, List.setIfInBounds_toArray, List.set_cons_zero, List.set_cons_succ]
        refine wpAnyH_take (i := 8) (oi := { dst := some 121, op := _, type := _, pos := _, after := _, guard := _ }) (v := .int .i64 e0) rfl (by kernel_rfl) (by kernel_rfl) (by kernel_rfl) (fun _ _ _ h => h) (Or.inl ⟨by rfl, ?_⟩) (by assumption) ?_
        · (intro w' hSw; (try dsimp only at hSw); go_simp; try rfl)
        simp only [Act.put, List.setIfInBounds_toArray, List.set_cons_zero, List.set_cons_succ]
        refine wpAnyH_take (i := 9) (oi := { dst := some 122, op := _, type := _, pos := _, after := _, guard := _ }) (v := .int .i64 e1) rfl (by kernel_rfl) (by kernel_rfl) (by kernel_rfl) (fun _ _ _ h => h) (Or.inl ⟨by rfl, ?_⟩) (by assumption) ?_
        · (intro w' hSw; (try dsimp only at hSw); go_simp; try rfl)
        simp only [Act.put, List.setIfInBounds_toArray, List.set_cons_zero, List.set_cons_succ]
        refine wpAnyH_ready (rs := [11]) (by kernel_rfl) (by simp) ?_
        refine AllReadyH.cons (o := { dst := none, op := _, type := _, pos := _, after := _, guard := _ }) rfl (fun K hK => ?_) AllReadyH.nil
        refine step_store_blk9 rfl 29 _ _ rfl (wqa.heap.size) [.slice hr0a hr0n hr0c, .slice hr1a hr1n hr1c, .slice hr2a hr2n hr2c, .slice hr3a hr3n hr3c] rfl rfl pX (by kernel_rfl) rfl rfl ?_
        intro w8 pX9 g9
        replace bq := bq.grown g9 bq.size (fun x hx => by cases hx; exact hgx)
        have hO9 := HO.out.kept9 g9 pX (by decide)
        refine hK.out _ _ ?_ (fun hSb => ?_)
        · exact ⟨cells_kept bq _ _ hS0.1, cells_kept bq _ _ hS0.2.1, cells_kept bq _ _ hS0.2.2.1, cells_kept bq _ _ hS0.2.2.2.1, cells_kept bq _ _ hS0.2.2.2.2⟩
        clear hK
        try simp only [Act.put, List.setIfInBounds_toArray, List.set_cons_zero, List.set_cons_succ]
        refine wpAnyH_take (i := 12) (oi := { dst := some 20, op := _, type := _, pos := _, after := _, guard := _ }) (v := .int .i64 e0) rfl (by kernel_rfl) (by kernel_rfl) (by kernel_rfl) (fun _ _ _ h => h) (Or.inl ⟨by rfl, ?_⟩) (by assumption) ?_
        · (intro w' hSw; (try dsimp only at hSw); go_simp; try rfl)
        simp only [Act.put, List.setIfInBounds_toArray, List.set_cons_zero, List.set_cons_succ]
        refine wpAnyH_take (i := 13) (oi := { dst := some 21, op := _, type := _, pos := _, after := _, guard := _ }) (v := .int .i64 e1) rfl (by kernel_rfl) (by kernel_rfl) (by kernel_rfl) (fun _ _ _ h => h) (Or.inl ⟨by rfl, ?_⟩) (by assumption) ?_
        · (intro w' hSw; (try dsimp only at hSw); go_simp; try rfl)
        simp only [Act.put, List.setIfInBounds_toArray, List.set_cons_zero, List.set_cons_succ]
        refine wpAnyH_done (by kernel_rfl) ?_ _
        go_wp2_with fail
        go_meet
        case rel => exact CutV9.mk9 (wqa.heap.size) ((hr0a, hr0n, hr0c), (hr1a, hr1n, hr1c), (hr2a, hr2n, hr2c), (hr3a, hr3n, hr3c)) rfl rfl rfl pX9.out (hO9.mem hfz) (bel_trans (by go_grown) bq)
    · skip
      go_simp
      have hal : Below wo1.drew.heap.size wo1.drew (wo1.drew.alloc (.cells #[.slice none 0 0, .slice none 0 0, .slice none 0 0, .slice none 0 0] 29)) := by go_grown
      have hgx : wo1.drew.heap.size ≤ wo1.drew.heap.size := bq.size
      have pX := Blk.new wo1.drew 29 [.slice none 0 0, .slice none 0 0, .slice none 0 0, .slice none 0 0]
      replace bq := bel_trans bq hal
      refine hK.out _ (wo1.drew.alloc (.cells #[.slice none 0 0, .slice none 0 0, .slice none 0 0, .slice none 0 0] 29)) ?_ (fun hSa => ?_)
      · exact ⟨cells_kept bq _ _ hS0.1, cells_kept bq _ _ hS0.2.1, cells_kept bq _ _ hS0.2.2.1, cells_kept bq _ _ hS0.2.2.2.1, cells_kept bq _ _ hS0.2.2.2.2⟩
      clear hK
      try simp only [Act.put, List.setIfInBounds_toArray, List.set_cons_zero, List.set_cons_succ]
      generalize (wo1.drew.alloc (.cells #[.slice none 0 0, .slice none 0 0, .slice none 0 0, .slice none 0 0] 29)) = wa at *
      clear hal hSa
      refine wpAnyH_ready (rs := [1]) (by kernel_rfl) (by simp) ?_
      refine AllReadyH.cons (o := { dst := some 115, op := _, type := _, pos := _, after := _, guard := _ }) rfl (fun K hK => ?_) AllReadyH.nil
      go_simp
      refine (kT0 _ (h0.below (bel_trans bd bq))).mono ?_
      rintro e wqa ⟨rfl, hO0, hq⟩
      have hc := hO0.codes
      replace pX := pX.below hq
      replace bq := bel_trans bq hq
      clear hq
      go_wp2_with fail
      refine hK.out _ _ ?_ (fun hSc => ?_)
      · exact ⟨cells_kept bq _ _ hS0.1, cells_kept bq _ _ hS0.2.1, cells_kept bq _ _ hS0.2.2.1, cells_kept bq _ _ hS0.2.2.2.1, cells_kept bq _ _ hS0.2.2.2.2⟩
      clear hK
      refine wpAnyH_ready (rs := [3]) (by kernel_rfl) (by simp) ?_
      refine AllReadyH.cons (o := { dst := some 117, op := _, type := _, pos := _, after := _, guard := _ }) rfl (fun K hK => ?_) AllReadyH.nil
      go_simp
      refine (kT1 _ (h1.below (bel_trans bd bq))).mono ?_
      rintro e wqb ⟨⟨t1, rfl, hO1⟩, hq⟩
      have hv := hO1.mem f1
      replace hc := hc.below hq
      replace pX := pX.below hq
      replace bq := bel_trans bq hq
      clear hq
      go_wp2_with fail
      refine hK.out _ _ ?_ (fun hSc => ?_)
      · exact ⟨cells_kept bq _ _ hS0.1, cells_kept bq _ _ hS0.2.1, cells_kept bq _ _ hS0.2.2.1, cells_kept bq _ _ hS0.2.2.2.1, cells_kept bq _ _ hS0.2.2.2.2⟩
      clear hK
      refine wpAnyH_ready (rs := [5]) (by kernel_rfl) (by simp) ?_
      refine AllReadyH.cons (o := { dst := some 119, op := _, type := _, pos := _, after := _, guard := _ }) rfl (fun K hK => ?_) AllReadyH.nil
      go_simp
      refine (kI _ _ _ t1 _ hc hv (hG0.below (bel_trans bd bq))).mono ?_
      rintro e wqc ⟨⟨tr, rfl, hO⟩, hq⟩
      obtain ⟨⟨hr0a, hr0n, hr0c⟩, ⟨hr1a, hr1n, hr1c⟩, ⟨hr2a, hr2n, hr2c⟩, ⟨hr3a, hr3n, hr3c⟩⟩ := tr
      have uR : S4.val ((hr0a, hr0n, hr0c), (hr1a, hr1n, hr1c), (hr2a, hr2n, hr2c), (hr3a, hr3n, hr3c)) = .agg #[.slice hr0a hr0n hr0c, .slice hr1a hr1n hr1c, .slice hr2a hr2n hr2c, .slice hr3a hr3n hr3c] := rfl
      rw [uR]; clear uR hc hv
      have HO : Hid (OwnV wqc 0 ((hr0a, hr0n, hr0c), (hr1a, hr1n, hr1c), (hr2a, hr2n, hr2c), (hr3a, hr3n, hr3c)) z) := OwnV.lower9 hO (Nat.zero_le _)
      clear hO
      replace pX := pX.below hq
      replace bq := bel_trans bq hq
      clear hq
      go_wp2_with fail
      refine hK.out _ _ ?_ (fun hSc => ?_)
      · exact ⟨cells_kept bq _ _ hS0.1, cells_kept bq _ _ hS0.2.1, cells_kept bq _ _ hS0.2.2.1, cells_kept bq _ _ hS0.2.2.2.1, cells_kept bq _ _ hS0.2.2.2.2⟩
      clear hK
      refine wpAnyH_take (i := 6) (oi := { dst := some 113, op := _, type := _, pos := _, after := _, guard := _ }) (v := .tuple #[.agg #[.slice hr0a hr0n hr0c, .slice hr1a hr1n hr1c, .slice hr2a hr2n hr2c, .slice hr3a hr3n hr3c], .int .i64 e0, .int .i64 e1]) rfl (by kernel_rfl) (by kernel_rfl) (by kernel_rfl) (fun _ _ _ h => h) (Or.inl ⟨by rfl, ?_⟩) (by assumption) ?_
      · (intro w' hSw; (try dsimp only at hSw); go_simp; try rfl)
      simp only [Act.put, List.setIfInBounds_toArray, List.set_cons_zero, List.set_cons_succ]
      refine wpAnyH_take (i := 7) (oi := { dst := some 120, op := _, type := _, pos := _, after := _, guard := _ }) (v := .agg #[.slice hr0a hr0n hr0c, .slice hr1a hr1n hr1c, .slice hr2a hr2n hr2c, .slice hr3a hr3n hr3c]) rfl (by kernel_rfl) (by kernel_rfl) (by kernel_rfl) (fun _ _ _ h => h) (Or.inl ⟨by rfl, ?_⟩) (by assumption) ?_
      · (intro w' hSw; (try dsimp only at hSw); go_simp; try rfl)
      simp only [Act.put, List.setIfInBounds_toArray, List.set_cons_zero, List.set_cons_succ]
      refine wpAnyH_take (i := 8) (oi := { dst := some 121, op := _, type := _, pos := _, after := _, guard := _ }) (v := .int .i64 e0) rfl (by kernel_rfl) (by kernel_rfl) (by kernel_rfl) (fun _ _ _ h => h) (Or.inl ⟨by rfl, ?_⟩) (by assumption) ?_
      · (intro w' hSw; (try dsimp only at hSw); go_simp; try rfl)
      simp only [Act.put, List.setIfInBounds_toArray, List.set_cons_zero, List.set_cons_succ]
      refine wpAnyH_take (i := 9) (oi := { dst := some 122, op := _, type := _, pos := _, after := _, guard := _ }) (v := .int .i64 e1) rfl (by kernel_rfl) (by kernel_rfl) (by kernel_rfl) (fun _ _ _ h => h) (Or.inl ⟨by rfl, ?_⟩) (by assumption) ?_
      · (intro w' hSw; (try dsimp only at hSw); go_simp; try rfl)
      simp only [Act.put, List.setIfInBounds_toArray, List.set_cons_zero, List.set_cons_succ]
      refine wpAnyH_ready (rs := [11]) (by kernel_rfl) (by simp) ?_
      refine AllReadyH.cons (o := { dst := none, op := _, type := _, pos := _, after := _, guard := _ }) rfl (fun K hK => ?_) AllReadyH.nil
      refine step_store_blk9 rfl 29 _ _ rfl (wo1.drew.heap.size) [.slice hr0a hr0n hr0c, .slice hr1a hr1n hr1c, .slice hr2a hr2n hr2c, .slice hr3a hr3n hr3c] rfl rfl pX (by kernel_rfl) rfl rfl ?_
      intro w8 pX9 g9
      replace bq := bq.grown g9 bq.size (fun x hx => by cases hx; exact hgx)
      have hO9 := HO.out.kept9 g9 pX (by decide)
      refine hK.out _ _ ?_ (fun hSb => ?_)
      · exact ⟨cells_kept bq _ _ hS0.1, cells_kept bq _ _ hS0.2.1, cells_kept bq _ _ hS0.2.2.1, cells_kept bq _ _ hS0.2.2.2.1, cells_kept bq _ _ hS0.2.2.2.2⟩
      clear hK
      try simp only [Act.put, List.setIfInBounds_toArray, List.set_cons_zero, List.set_cons_succ]
      refine wpAnyH_take (i := 12) (oi := { dst := some 20, op := _, type := _, pos := _, after := _, guard := _ }) (v := .int .i64 e0) rfl (by kernel_rfl) (by kernel_rfl) (by kernel_rfl) (fun _ _ _ h => h) (Or.inl ⟨by rfl, ?_⟩) (by assumption) ?_
      · (intro w' hSw; (try dsimp only at hSw); go_simp; try rfl)
      simp only [Act.put, List.setIfInBounds_toArray, List.set_cons_zero, List.set_cons_succ]
      refine wpAnyH_take (i := 13) (oi := { dst := some 21, op := _, type := _, pos := _, after := _, guard := _ }) (v := .int .i64 e1) rfl (by kernel_rfl) (by kernel_rfl) (by kernel_rfl) (fun _ _ _ h => h) (Or.inl ⟨by rfl, ?_⟩) (by assumption) ?_
      · (intro w' hSw; (try dsimp only at hSw); go_simp; try rfl)
      simp only [Act.put, List.setIfInBounds_toArray, List.set_cons_zero, List.set_cons_succ]
      refine wpAnyH_done (by kernel_rfl) ?_ _
      go_wp2_with fail
      go_meet
      case rel => exact CutV9.mk9 (wo1.drew.heap.size) ((hr0a, hr0n, hr0c), (hr1a, hr1n, hr1c), (hr2a, hr2n, hr2c), (hr3a, hr3n, hr3c)) rfl rfl rfl pX9.out (hO9.mem hfz) (bel_trans (by go_grown) bq)
  obtain ⟨gH, ⟨⟨hr0a, hr0n, hr0c⟩, ⟨hr1a, hr1n, hr1c⟩, ⟨hr2a, hr2n, hr2c⟩, ⟨hr3a, hr3n, hr3c⟩⟩, rfl, rfl, rfl, pH, hE, hbr⟩ := hcut
  rename World => wP
  dsimp only at pH
  clear g0_0 g1_0 g1_1 g1_2 g1_3
  replace bo := bel_trans bo hbr
  replace hD2 := hD2.below hbr
  replace pG := pG.below hbr
  clear hbr
  have rs0 := (pRS.below bo).cell 0
  have rs1 := (pRS.below bo).cell 1
  have rs2 := (pRS.below bo).cell 2
  have rs3 := (pRS.below bo).cell 3
  have hs0 := pH.cell 0
  have hs1 := pH.cell 1
  have hs2 := pH.cell 2
  have hs3 := pH.cell 3
  simp only [List.getElem?_cons_zero, List.getElem?_cons_succ] at rs0 rs1 rs2 rs3 hs0 hs1 hs2 hs3
  go_wp2_with fail
  refine (eqVm_same ((hr0a, hr0n, hr0c), (hr1a, hr1n, hr1c), (hr2a, hr2n, hr2c), (hr3a, hr3n, hr3c)) ((sr0a, sr0n, sr0c), (sr1a, sr1n, sr1c), (sr2a, sr2n, sr2c), (sr3a, sr3n, sr3c)) z _ hE (hR0.below bo)).mono ?_
  rintro e wp1 ⟨rfl, hb⟩
  replace bo := bel_trans bo hb
  replace hD2 := hD2.below hb
  replace pG := pG.below hb
  clear hb rs0 rs1 rs2 rs3 hs0 hs1 hs2 hs3 hE pH
  have gs0 := pG.cell 0
  have gs1 := pG.cell 1
  have gs2 := pG.cell 2
  have gs3 := pG.cell 3
  simp only [List.getElem?_cons_zero, List.getElem?_cons_succ] at gs0 gs1 gs2 gs3
  go_wp2_with fail
  refine (HH _ hD2).mono ?_
  rintro e wp2 ⟨rfl, hb⟩
  have bz := bel_trans (bel_trans bw bo) hb
  clear hb gs0 gs1 gs2 gs3
  go_wp2
  go_ret
  exact ⟨rfl, bz⟩
end Go.Proofs.YtkmnnmgopnoffaaDoor
