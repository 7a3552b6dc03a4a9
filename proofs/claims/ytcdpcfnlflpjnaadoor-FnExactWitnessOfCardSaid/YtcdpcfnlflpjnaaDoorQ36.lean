/-
  Joined: WofW, FulP.
-/
import Derived.Test.YtcdpcfnlflpjnaaDoorProg
import Derived.Deep.RegionHeld3
import Derived.KernelRfl
import Derived.Tactics
import Derived.WalkKit
import Derived.WalkSpells
import Derived.WalkLawsBesides
import Derived.RegionTactic
import Derived.BigQuiet
import Derived.Deep.QuietTactic
import Derived.Deep.Slices
import Derived.Deep.Strs
import Derived.Deep.Fields
import Derived.ChangeSame
import Derived.Handy
import Derived.OwnWalk
import Derived.ChangeSlices
import Derived.Lib.SmallJoins
import Derived.Shelf.Abstract
import Derived.Laws.BytesArg
import Derived.Deep.RegionLaw
import Derived.Laws.OwnMore
import Derived.Laws.CopyOwn
import Derived.Laws.Tables
import Derived.BigRegion
import Derived.Maps.AppendAt
import Derived.Stop.Asserts
import Derived.Recover
import Derived.IntWalk
import Derived.Deep.MidRow
import Derived.Laws.RangeString
import Derived.Laws.RangeAny
import Derived.Laws.Bits
import Derived.Lib.FieldsP
import Derived.Shelf.SlSortCmp.NoneTotal
import Derived.Shelf.Spec.SlicesGrow
import Derived.Laws.AppendOwnNone
import Derived.Lib.SliceRun
import Derived.Test.YtcdpcfnlflpjnaaDoorQ01
import Derived.Test.YtcdpcfnlflpjnaaDoorQ02
import Derived.Test.YtcdpcfnlflpjnaaDoorQ03
import Derived.Test.YtcdpcfnlflpjnaaDoorQ05
import Derived.Test.YtcdpcfnlflpjnaaDoorQ09
import Derived.Test.YtcdpcfnlflpjnaaDoorQ10
import Derived.Test.YtcdpcfnlflpjnaaDoorQ11
import Derived.Test.YtcdpcfnlflpjnaaDoorQ13
import Derived.Test.YtcdpcfnlflpjnaaDoorQ14
import Derived.Test.YtcdpcfnlflpjnaaDoorQ15
import Derived.Test.YtcdpcfnlflpjnaaDoorQ17
import Derived.Test.YtcdpcfnlflpjnaaDoorQ26
import Derived.Test.YtcdpcfnlflpjnaaDoorQ27
import Derived.Test.YtcdpcfnlflpjnaaDoorQ30
import Derived.Test.YtcdpcfnlflpjnaaDoorQ31
import Derived.Test.YtcdpcfnlflpjnaaDoorQ32
import Derived.Test.YtcdpcfnlflpjnaaDoorQ33
import Derived.Test.YtcdpcfnlflpjnaaDoorQ35

/-
  FnExactWitnessOf, given what both answer: the law's walk (marks and all).
-/
namespace Go.Proofs.YtcdpcfnlflpjnaaDoor
open Go.RowKit
set_option linter.unusedVariables false
set_option linter.unusedSimpArgs false

theorem fnExactWitnessOf_heap {w w' : World} {b e s n : Nat} {v : Value} {xs : List Value} (h : w.ownsRow b e s v n xs) (hq : ∀ j, v.ownBlock = some j → w'.heap[j]? = w.heap[j]?) : w'.ownsRow b e s v n xs := by
  refine ⟨h.1, ?_⟩
  rcases h.2 with h0 | ⟨g, cap, cur, hv, hB, hg, rest⟩
  · exact .inl h0
  · exact .inr ⟨g, cap, cur, hv, hB, by rw [hq g (by rw [hv]; rfl)]; exact hg, rest⟩
theorem fnExactWitnessOf_blk {T : TypeId} {w w' : World} {g t : Nat} {cs : List Value} (k : KeptBut T w w') (h : Blk w g t cs) (hT : t ≠ T) : Blk w' g t cs := k g _ t _ h hT

set_option maxHeartbeats 1200000 in
set_option maxRecDepth 100000 in
theorem fnExactWitnessOf_of (a0 : Option Addr) (n0 c0 : Nat) (r0 : List (List I3)) (y : I3) (xs : List Int) (hlf : xs.length ≤ 100000) (cd : Int) (w : World) (h0 : Codes w a0 n0 c0 r0) (hG : VmShape w)
    (kS : ∀ (a0 : Option Addr) (n0 c0 : Nat) (w : World), Codes w a0 n0 c0 r0 → Calls Tryd.prog 16 #[.agg #[.slice a0 n0 c0], y.val] w fun e w' => LGot e w' w.heap.size xs cd ∧ Below w.heap.size w w')
    (kI : ∀ (a0 : Option Addr) (n0 c0 : Nat) (w : World), Codes w a0 n0 c0 r0 → VmShape w → Calls Tryd.prog 18 #[.agg #[.slice a0 n0 c0], y.val] w fun e w' => LGot e w' w.heap.size xs cd ∧ Below w.heap.size w w') :
    Calls Tryd.prog 4 #[.agg #[.slice a0 n0 c0], y.val] w fun e w' => e = .returned (.bool true) ∧ Below w.heap.size w w' := by
  obtain ⟨y0, y1, y2⟩ := y
  have tB := toBug_same (y0, y1, y2)
  unfold I3.val at *
  simp only at kS kI tB ⊢
  have kT := fun W h => toProgram_copy a0 n0 c0 r0 W h
  have kO := fun W h => toProgram_own a0 n0 c0 r0 W h
  have hcd : (cd != cd) = false := by simp
  have bw : Below w.heap.size w ((w.alloc (.cells #[.slice a0 n0 c0] 24)).alloc (.cells #[.int .i64 y0, .int .i64 y1, .int .i64 y2] 39)) := by go_grown
  have p0 : Blk ((w.alloc (.cells #[.slice a0 n0 c0] 24)).alloc (.cells #[.int .i64 y0, .int .i64 y1, .int .i64 y2] 39)) w.heap.size 24 [.slice a0 n0 c0] := blkOld _ (blkAt _ _ _ rfl)
  have pB : Blk ((w.alloc (.cells #[.slice a0 n0 c0] 24)).alloc (.cells #[.int .i64 y0, .int .i64 y1, .int .i64 y2] 39)) (w.heap.size + 1) 39 [.int .i64 y0, .int .i64 y1, .int .i64 y2] := blkAt _ _ _ (by simp)
  go_enter Tryd.func4, Tryd.ntmps4
  go_wp2_with fail
  generalize ((w.alloc (.cells #[.slice a0 n0 c0] 24)).alloc (.cells #[.int .i64 y0, .int .i64 y1, .int .i64 y2] 39)) = W0 at *
  go_wp2_with (first | refine wpList_load_blk rfl 24 _ rfl w.heap.size rfl p0 _ Tryd.underlying24 rfl (by kernel_rfl) ?_)
  have hz := sizeLeft_or r0 1048576 (by omega)
  have hbd := size_bounds (rows := r0) (left := 1048576) (by omega)
  have hcb := fun h => sizeLeft_cnt (rows := r0) (left := 1048576) h
  refine (szProgram_less a0 n0 c0 r0 1048576 _ (h0.below bw) (by omega) (by omega)).mono ?_
  rintro e wz ⟨rfl, hb⟩
  generalize sizeLeft 1048576 r0 = zl at hz hbd hcb
  replace bw := bel_trans bw hb
  replace p0 := p0.below hb
  replace pB := pB.below hb
  clear hb
  rcases hz with rfl | ⟨yl, xl⟩
  · clear hbd hcb
    go_wp2
    go_ret
    exact ⟨rfl, bw⟩
  obtain ⟨hr, hr'⟩ := hbd yl (by omega)
  have hcnt := hcb yl
  have hlen : n0 ≤ 1048576 := by rw [← h0.1]; exact hr
  replace kT := fun W h => kT W h hlen (fun t _ => hr' t)
  replace kO := fun W h => kO W h hlen (fun t _ => hr' t)
  have hcl : cntP r0 r0.length ≤ 10000000 := by omega
  have hcj : ∀ j, j ≤ r0.length → cntP r0 j ≤ 10000000 := fun j hj => by have := cntP_mono r0 j; omega
  have HRJ : Hid (∀ j, j < r0.length → (r0.getD j []).length ≤ 1048576) := fun j _ => hr' j
  clear hbd hcb hr hr' hlen hcnt
  have hn0 : decide (zl < 0) = false := by simp; omega
  clear yl xl
  have b9 := p0.cell 0
  have b0 := pB.cell 0
  have b1 := pB.cell 1
  have b2 := pB.cell 2
  simp only [List.getElem?_cons_zero, List.getElem?_cons_succ] at b9 b0 b1 b2
  go_wp2_with fail
  have hdr : Below wz.heap.size wz wz.drew := by go_grown
  have bd := bel_trans bw hdr
  refine wp_region_held_drew (S := (fun w' => w'.cell? ⟨w.heap.size, 0, none⟩ = some (.slice a0 n0 c0) ∧ w'.cell? ⟨w.heap.size + 1, 0, none⟩ = some (.int .i64 y0) ∧ w'.cell? ⟨w.heap.size + 1, 1, none⟩ = some (.int .i64 y1) ∧ w'.cell? ⟨w.heap.size + 1, 2, none⟩ = some (.int .i64 y2))) (by kernel_rfl) ⟨b9, b0, b1, b2⟩ (fun hS0 => ?_)
  refine tkm 0 22 (.agg #[.slice a0 n0 c0]) ?_
  refine tkm 2 24 (.agg #[.int .i64 y0, .int .i64 y1, .int .i64 y2]) ?_
  refine tkr 1 23 (fun K hK => ?_)
  go_simp
  refine (kT _ (h0.below bd)).mono ?_
  rintro e wa ⟨rfl, hO, hb1⟩
  go_wp2_with fail
  refine hK.out _ _ ?_ (fun hS1 => ?_)
  · exact ⟨cells_kept hb1 _ _ hS0.1, cells_kept hb1 _ _ hS0.2.1, cells_kept hb1 _ _ hS0.2.2.1, cells_kept hb1 _ _ hS0.2.2.2⟩
  clear hK
  have hA := hO.codes
  clear hO
  refine tkr 3 25 (fun K hK => ?_)
  go_simp
  refine (tB _).mono ?_
  rintro e wc ⟨rfl, hb3⟩
  go_wp2_with fail
  refine hK.out _ _ ?_ (fun hS2 => ?_)
  · exact ⟨cells_kept hb3 _ _ hS1.1, cells_kept hb3 _ _ hS1.2.1, cells_kept hb3 _ _ hS1.2.2.1, cells_kept hb3 _ _ hS1.2.2.2⟩
  clear hK
  refine tkr 4 26 (fun K hK => ?_)
  go_simp
  refine (kS _ _ _ _ (hA.below hb3)).mono ?_
  rintro e wS ⟨⟨vS, rfl, qS⟩, hb4⟩
  obtain ⟨vSa, vSc, rfl, i9⟩ := lst_slice qS
  clear i9
  go_wp2_with fail
  refine hK.out _ _ ?_ (fun hS3 => ?_)
  · exact ⟨cells_kept hb4 _ _ hS2.1, cells_kept hb4 _ _ hS2.2.1, cells_kept hb4 _ _ hS2.2.2.1, cells_kept hb4 _ _ hS2.2.2.2⟩
  clear hK
  try simp only [Act.put, List.setIfInBounds_toArray, List.set_cons_zero, List.set_cons_succ]
  refine tkm 5 21 (.tuple #[.slice vSa xs.length vSc, .int .i64 cd]) ?_
  refine tkm 6 27 (.slice vSa xs.length vSc) ?_
  refine tkm 7 28 (.int .i64 cd) ?_
  refine tkm 8 6 (.slice vSa xs.length vSc) ?_
  refine tkm 9 7 (.int .i64 cd) ?_
  refine wpAnyH_done (by kernel_rfl) ?_ _
  have hb9 : Below wz.heap.size wz wS := bel_trans hdr (bel_trans hb1 (bel_trans hb3 hb4))
  replace bw := bel_trans bw hb9
  replace p0 := p0.below hb9
  replace pB := pB.below hb9
  clear hb9 hb1 hb3 hb4 hdr bd hS0 hS1 hS2 hS3 hA b9 b0 b1 b2
  clear kS
  have bv : ∀ j, (Value.slice vSa xs.length vSc).ownBlock = some j → j < wS.heap.size := fun j hj => (qS.lt j hj).2
  go_wp2_with (first | refine wpList_load_blk rfl 24 _ rfl w.heap.size rfl p0 _ Tryd.underlying24 rfl (by kernel_rfl) ?_)
  refine (kO _ (h0.below bw)).mono ?_
  rintro e wx ⟨rfl, hP, hb⟩
  have hBx : w.heap.size ≤ wS.heap.size + 3 := by have := bw.size; omega
  have hSx : wS.heap.size ≤ wx.heap.size := hb.size
  generalize hgx : wS.heap.size + 3 = gx at hP hBx ⊢
  replace bw := bel_trans bw hb
  replace p0 := p0.below hb
  replace pB := pB.below hb
  replace qS := owns_below qS hb
  have hgxX : gx ≤ wx.heap.size := by obtain ⟨vs9, h9, _⟩ := hP; have := (h9.lt gx rfl).2; omega
  clear hb hgx
  generalize wS.heap.size = NS at *
  have ha : Below wx.heap.size wx (wx.alloc (.cells #[.slice (some ⟨gx, 0, none⟩) n0 n0] 31)) := by go_grown
  have pX : Blk (wx.alloc (.cells #[.slice (some ⟨gx, 0, none⟩) n0 n0] 31)) wx.heap.size 31 [.slice (some ⟨gx, 0, none⟩) n0 n0] := blkAt _ _ _ rfl
  replace bw := bel_trans bw ha
  replace p0 := p0.below ha
  replace pB := pB.below ha
  replace qS := owns_below qS ha
  replace hP := hP.below ha
  have hNp : wx.heap.size ≤ (wx.alloc (.cells #[.slice (some ⟨gx, 0, none⟩) n0 n0] 31)).heap.size := ha.size
  clear ha
  go_wp2_with fail
  generalize (wx.alloc (.cells #[.slice (some ⟨gx, 0, none⟩) n0 n0] 31)) = wy at *
  generalize wx.heap.size = GX at *
  have hX := hP.codes9 h0
  have b9 := pX.cell 0
  have b0 := pB.cell 0
  have b1 := pB.cell 1
  have b2 := pB.cell 2
  simp only [List.getElem?_cons_zero, List.getElem?_cons_succ] at b9 b0 b1 b2
  have hdr : Below wy.heap.size wy wy.drew := by go_grown
  refine wp_region_held_drew (S := (fun w' => w'.cell? ⟨GX, 0, none⟩ = some (.slice (some ⟨gx, 0, none⟩) n0 n0) ∧ w'.cell? ⟨w.heap.size + 1, 0, none⟩ = some (.int .i64 y0) ∧ w'.cell? ⟨w.heap.size + 1, 1, none⟩ = some (.int .i64 y1) ∧ w'.cell? ⟨w.heap.size + 1, 2, none⟩ = some (.int .i64 y2))) (by kernel_rfl) ⟨b9, b0, b1, b2⟩ (fun hS0 => ?_)
  refine tkm 0 32 (.agg #[.slice (some ⟨gx, 0, none⟩) n0 n0]) ?_
  refine tkm 1 33 (.agg #[.int .i64 y0, .int .i64 y1, .int .i64 y2]) ?_
  refine tkr 2 34 (fun K hK => ?_)
  go_simp
  refine (tB _).mono ?_
  rintro e wc ⟨rfl, hb3⟩
  go_wp2_with fail
  refine hK.out _ _ ?_ (fun hS1 => ?_)
  · exact ⟨cells_kept hb3 _ _ hS0.1, cells_kept hb3 _ _ hS0.2.1, cells_kept hb3 _ _ hS0.2.2.1, cells_kept hb3 _ _ hS0.2.2.2⟩
  clear hK
  have hb5 := bel_trans hdr hb3
  refine tkr 3 35 (fun K hK => ?_)
  go_simp
  refine (kI _ _ _ _ (hX.below hb5) (hG.below (bel_trans bw hb5))).mono ?_
  rintro e wI ⟨⟨vG, rfl, qG⟩, hb4⟩
  obtain ⟨vGa, vGc, rfl, i9⟩ := lst_slice qG
  clear i9
  go_wp2_with fail
  refine hK.out _ _ ?_ (fun hS3 => ?_)
  · exact ⟨cells_kept hb4 _ _ hS1.1, cells_kept hb4 _ _ hS1.2.1, cells_kept hb4 _ _ hS1.2.2.1, cells_kept hb4 _ _ hS1.2.2.2⟩
  clear hK
  try simp only [Act.put, List.setIfInBounds_toArray, List.set_cons_zero, List.set_cons_succ]
  refine tkm 4 31 (.tuple #[.slice vGa xs.length vGc, .int .i64 cd]) ?_
  refine tkm 5 36 (.slice vGa xs.length vGc) ?_
  refine tkm 6 37 (.int .i64 cd) ?_
  refine tkm 7 9 (.slice vGa xs.length vGc) ?_
  refine tkm 8 10 (.int .i64 cd) ?_
  refine wpAnyH_done (by kernel_rfl) ?_ _
  have hGB : GX < wc.heap.size := Nat.lt_of_lt_of_le pX.lt hb5.size
  have hb9 : Below wy.heap.size wy wI := bel_trans hb5 hb4
  replace bw := bel_trans bw hb9
  replace p0 := p0.below hb9
  replace pB := pB.below hb9
  replace qS := owns_below qS hb9
  replace hP := hP.below hb9
  replace pX := pX.below hb9
  generalize wc.heap.size = BG at *
  clear hb9 hb3 hb4 hb5 hdr hS0 hS1 hS3 b9 b0 b1 b2 hX
  go_wp2_with fail
  refine (eqL_same vGa vSa xs.length vGc vSc xs _ (lst_of qG) (lst_of qS)).mono ?_
  rintro e u2 ⟨rfl, hb⟩
  replace bw := bel_trans bw hb
  replace p0 := p0.below hb
  replace pB := pB.below hb
  replace qS := owns_below qS hb
  replace hP := hP.below hb
  replace pX := pX.below hb
  replace qG := owns_below qG hb
  clear hb
  have b9 := pX.cell 0
  have b8 := p0.cell 0
  simp only [List.getElem?_cons_zero, List.getElem?_cons_succ] at b9 b8
  go_wp2_with fail
  have hdr : Below u2.heap.size u2 u2.drew := by go_grown
  have bd := bel_trans bw hdr
  have hX := hP.codes9 h0
  refine wp_region_held_drew (S := (fun w' => w'.cell? ⟨GX, 0, none⟩ = some (.slice (some ⟨gx, 0, none⟩) n0 n0) ∧ w'.cell? ⟨w.heap.size, 0, none⟩ = some (.slice a0 n0 c0))) (by kernel_rfl) ⟨b9, b8⟩ (fun hS0 => ?_)
  refine tkm 0 47 (.agg #[.slice (some ⟨gx, 0, none⟩) n0 n0]) ?_
  refine tkm 1 48 (.agg #[.slice a0 n0 c0]) ?_
  refine tkr 2 49 (fun K hK => ?_)
  go_simp
  refine (kT _ (h0.below bd)).mono ?_
  rintro e wk ⟨rfl, hO, hb1⟩
  go_wp2_with fail
  refine hK.out _ _ ?_ (fun hS1 => ?_)
  · exact ⟨cells_kept hb1 _ _ hS0.1, cells_kept hb1 _ _ hS0.2⟩
  clear hK
  have hK9 := hO.codes
  clear hO
  refine tkr 3 50 (fun K hK => ?_)
  go_simp
  refine (eqProgram_same _ _ _ _ _ r0 _ (hX.below (bel_trans hdr hb1)) hK9).mono ?_
  rintro e u3 ⟨rfl, hb2⟩
  go_wp2_with fail
  refine hK.out _ _ ?_ (fun hS2 => ?_)
  · exact ⟨cells_kept hb2 _ _ hS1.1, cells_kept hb2 _ _ hS1.2⟩
  clear hK
  refine tkm 4 51 (.bool false) ?_
  refine wpAnyH_done (by kernel_rfl) ?_ _
  have hb9 : Below u2.heap.size u2 u3 := bel_trans hdr (bel_trans hb1 hb2)
  replace bw := bel_trans bw hb9
  replace p0 := p0.below hb9
  replace pB := pB.below hb9
  replace qS := owns_below qS hb9
  replace hP := hP.below hb9
  replace pX := pX.below hb9
  replace qG := owns_below qG hb9
  clear hb9 hb1 hb2 hdr bd hS0 hS1 hS2 b9 b8 hX hK9
  have hBW : gx ≤ u3.heap.size := by have := pX.lt; omega
  go_wp2_with (first | refine wpList_load_blk rfl 31 _ rfl GX rfl pX _ Tryd.underlying31 rfl (by kernel_rfl) ?_)
  refine (markProgram_own gx _ 1 r0 _ (by omega) (by omega) hcl hcj HRJ.out hBW hP).mono ?_
  rintro e u6 ⟨rfl, _, kb, hb⟩
  replace bw := bel_transR bw (below_lowR hb hBx)
  replace p0 := fnExactWitnessOf_blk kb p0 (by decide)
  replace pX := fnExactWitnessOf_blk kb pX (by decide)
  replace pB := fnExactWitnessOf_blk kb pB (by decide)
  replace qS := kb.owns qS (by decide)
  replace qG := kb.owns qG (by decide)
  clear kb hb hP hBW
  have hc0 : (0 : Int) ≤ cntP r0 r0.length := by omega
  have hk9 : decide (1 + (cntP r0 r0.length : Int) < 0) = false := by simp; omega
  go_wp2_with fail
  refine (eqL_same vGa vSa xs.length vGc vSc xs _ (lst_of qG) (lst_of qS)).mono ?_
  rintro e u9 ⟨rfl, hb⟩
  replace bw := bel_trans bw hb
  replace p0 := p0.below hb
  replace pB := pB.below hb
  replace qS := owns_below qS hb
  replace pX := pX.below hb
  replace qG := owns_below qG hb
  clear hb
  clear hk9
  go_wp2_with fail
  refine (markL_any BG _ 1 xs _ (by omega) (by omega) (by omega) qG).mono ?_
  rintro e v2 ⟨rfl, qG2, g2⟩
  replace p0 := p0.kept g2 (own_ne_blk qG p0 (by decide))
  replace pX := pX.kept g2 (own_ne_blk qG pX (by decide))
  replace pB := pB.kept g2 (own_ne_blk qG pB (by decide))
  replace qS := fnExactWitnessOf_heap qS fun j hj => g2.block j (qS.lt j hj).2 (fun e => by have h1 := (qG.lt j e.symm).1; have := bv _ hj; omega)
  replace bw := bw.grown g2 bw.size (fun k e => by have h1 := (qG.lt k e).1; omega)
  clear g2 qG
  have qG := qG2
  clear qG2
  have hh2 : decide (1 + (xs.length : Int) < 0) = false := by simp; omega
  have hh3 : ((1 + (xs.length : Int)) != (1 + (xs.length : Int))) = false := by simp
  go_wp2_with fail
  refine (heldL_any BG _ 1 xs _ (by omega) (by omega) (by omega) qG).mono ?_
  rintro e h1b ⟨rfl, rfl⟩
  have b9 := p0.cell 0
  have b0 := pB.cell 0
  have b1 := pB.cell 1
  have b2 := pB.cell 2
  simp only [List.getElem?_cons_zero, List.getElem?_cons_succ] at b9 b0 b1 b2
  go_wp2_with fail
  have hdr : Below v2.heap.size v2 v2.drew := by go_grown
  have bd := bel_trans bw hdr
  refine wp_region_held_drew (S := (fun w' => w'.cell? ⟨w.heap.size, 0, none⟩ = some (.slice a0 n0 c0) ∧ w'.cell? ⟨w.heap.size + 1, 0, none⟩ = some (.int .i64 y0) ∧ w'.cell? ⟨w.heap.size + 1, 1, none⟩ = some (.int .i64 y1) ∧ w'.cell? ⟨w.heap.size + 1, 2, none⟩ = some (.int .i64 y2))) (by kernel_rfl) ⟨b9, b0, b1, b2⟩ (fun hS0 => ?_)
  refine tkm 0 80 (.agg #[.slice a0 n0 c0]) ?_
  refine tkm 2 82 (.agg #[.int .i64 y0, .int .i64 y1, .int .i64 y2]) ?_
  refine tkr 1 81 (fun K hK => ?_)
  go_simp
  refine (kT _ (h0.below bd)).mono ?_
  rintro e wa ⟨rfl, hO, hb1⟩
  go_wp2_with fail
  refine hK.out _ _ ?_ (fun hS1 => ?_)
  · exact ⟨cells_kept hb1 _ _ hS0.1, cells_kept hb1 _ _ hS0.2.1, cells_kept hb1 _ _ hS0.2.2.1, cells_kept hb1 _ _ hS0.2.2.2⟩
  clear hK
  have hA := hO.codes
  clear hO
  refine tkr 3 83 (fun K hK => ?_)
  go_simp
  refine (tB _).mono ?_
  rintro e wc ⟨rfl, hb3⟩
  go_wp2_with fail
  refine hK.out _ _ ?_ (fun hS2 => ?_)
  · exact ⟨cells_kept hb3 _ _ hS1.1, cells_kept hb3 _ _ hS1.2.1, cells_kept hb3 _ _ hS1.2.2.1, cells_kept hb3 _ _ hS1.2.2.2⟩
  clear hK
  refine tkr 4 84 (fun K hK => ?_)
  go_simp
  refine (kI _ _ _ _ (hA.below hb3) (hG.below (bel_trans bd (bel_trans hb1 hb3)))).mono ?_
  rintro e xc ⟨⟨vH, rfl, qH⟩, hb4⟩
  obtain ⟨vHa, vHc, rfl, i9⟩ := lst_slice qH
  clear i9
  go_wp2_with fail
  refine hK.out _ _ ?_ (fun hS3 => ?_)
  · exact ⟨cells_kept hb4 _ _ hS2.1, cells_kept hb4 _ _ hS2.2.1, cells_kept hb4 _ _ hS2.2.2.1, cells_kept hb4 _ _ hS2.2.2.2⟩
  clear hK
  try simp only [Act.put, List.setIfInBounds_toArray, List.set_cons_zero, List.set_cons_succ]
  refine tkm 5 79 (.tuple #[.slice vHa xs.length vHc, .int .i64 cd]) ?_
  refine tkm 6 85 (.slice vHa xs.length vHc) ?_
  refine tkm 7 86 (.int .i64 cd) ?_
  refine tkm 8 14 (.slice vHa xs.length vHc) ?_
  refine tkm 9 15 (.int .i64 cd) ?_
  refine wpAnyH_done (by kernel_rfl) ?_ _
  have hb9 : Below v2.heap.size v2 xc := bel_trans hdr (bel_trans hb1 (bel_trans hb3 hb4))
  replace bw := bel_trans bw hb9
  replace p0 := p0.below hb9
  replace pB := pB.below hb9
  replace qS := owns_below qS hb9
  replace pX := pX.below hb9
  replace qG := owns_below qG hb9
  clear hb9 hb1 hb3 hb4 hdr bd hS0 hS1 hS2 hS3 hA b9 b0 b1 b2
  clear kI
  go_wp2_with fail
  refine (eqL_same vHa vSa xs.length vHc vSc xs _ (lst_of qH) (lst_of qS)).mono ?_
  rintro e y9 ⟨rfl, hb⟩
  replace bw := bel_trans bw hb
  replace p0 := p0.below hb
  replace pB := pB.below hb
  replace qS := owns_below qS hb
  replace pX := pX.below hb
  replace qG := owns_below qG hb
  clear hb qH
  go_wp2_with fail
  refine (heldL_any BG _ 1 xs _ (by omega) (by omega) (by omega) qG).mono ?_
  rintro e h2b ⟨rfl, rfl⟩
  go_wp2
  go_ret
  exact ⟨rfl, bw⟩
end Go.Proofs.YtcdpcfnlflpjnaaDoor


/-
  All that is reached, first come first, in plain words: a search over any steps; what it keeps; its bound.
-/
namespace Go.Proofs.YtcdpcfnlflpjnaaDoor
set_option linter.unusedVariables false

section
variable {σ : Type} [DecidableEq σ]
abbrev Rec6 (σ : Type) := σ × Nat × Int
def hasS (S : List (Rec6 σ)) (x : σ) : Bool := S.any fun r => decide (r.1 = x)
theorem hasS_iff {S : List (Rec6 σ)} {x : σ} : hasS S x = true ↔ x ∈ S.map (·.1) := by
  unfold hasS
  simp
def putS (i : Nat) (S : List (Rec6 σ)) (kx : Int × σ) : List (Rec6 σ) := if hasS S kx.2 then S else S ++ [(kx.2, i, kx.1)]
def onS (i : Nat) (S : List (Rec6 σ)) (ts : List (Int × σ)) : List (Rec6 σ) := ts.foldl (putS i) S
def srch (nx : σ → List (Int × σ)) : Nat → Nat → List (Rec6 σ) → List (Rec6 σ)
  | 0, _, S => S
  | f + 1, i, S => match S[i]? with
    | none => S
    | some r => srch nx f (i + 1) (onS i S (nx r.1))
theorem putS_pre (i : Nat) (S : List (Rec6 σ)) (kx : Int × σ) : S <+: putS i S kx := by
  unfold putS
  split
  · exact List.prefix_refl _
  · exact List.prefix_append _ _
theorem onS_pre (i : Nat) : ∀ (ts : List (Int × σ)) (S : List (Rec6 σ)), S <+: onS i S ts
  | [], S => List.prefix_refl _
  | t :: ts, S => (putS_pre i S t).trans (onS_pre i ts (putS i S t))
theorem srch_pre (nx : σ → List (Int × σ)) : ∀ (f i : Nat) (S : List (Rec6 σ)), S <+: srch nx f i S
  | 0, _, S => List.prefix_refl _
  | f + 1, i, S => by
    unfold srch
    split
    · exact List.prefix_refl _
    · exact (onS_pre i _ S).trans (srch_pre nx f (i + 1) _)
theorem srch_end {nx : σ → List (Int × σ)} {f i : Nat} {S : List (Rec6 σ)} (h : S.length ≤ i) : srch nx f i S = S := by
  cases f with
  | zero => rfl
  | succ f => unfold srch; rw [List.getElem?_eq_none h]
theorem srch_go {nx : σ → List (Int × σ)} {f i : Nat} {S : List (Rec6 σ)} (h : i < S.length) : srch nx (f + 1) i S = srch nx f (i + 1) (onS i S (nx (S[i]'h).1)) := by
  conv => lhs; unfold srch
  rw [List.getElem?_eq_getElem h]
theorem onS_cons (i : Nat) (S : List (Rec6 σ)) (t : Int × σ) (ts : List (Int × σ)) : onS i S (t :: ts) = onS i (putS i S t) ts := rfl
theorem putS_has (i : Nat) (S : List (Rec6 σ)) (kx : Int × σ) : kx.2 ∈ (putS i S kx).map (·.1) := by
  unfold putS
  split
  · rename_i h; exact hasS_iff.1 h
  · simp
def Came (nx : σ → List (Int × σ)) (S : List (Rec6 σ)) : Prop := ∀ j r, 0 < j → S[j]? = some r → r.2.1 < j ∧ ∃ q, S[r.2.1]? = some q ∧ (r.2.2, r.1) ∈ nx q.1
theorem putS_came {nx : σ → List (Int × σ)} {i : Nat} {S : List (Rec6 σ)} {kx : Int × σ} {q : Rec6 σ} (h : Came nx S) (hq : S[i]? = some q) (hm : kx ∈ nx q.1) : Came nx (putS i S kx) ∧ (putS i S kx)[i]? = some q := by
  have hi : i < S.length := (List.getElem?_eq_some_iff.1 hq).1
  unfold putS
  split
  · exact ⟨h, hq⟩
  · refine ⟨fun j r hj hr => ?_, by rw [List.getElem?_append_left hi]; exact hq⟩
    by_cases hjl : j < S.length
    · rw [List.getElem?_append_left hjl] at hr
      obtain ⟨h1, q', h2, h3⟩ := h j r hj hr
      exact ⟨h1, q', by rw [List.getElem?_append_left (by omega)]; exact h2, h3⟩
    · have e : j = S.length := by
        have := (List.getElem?_eq_some_iff.1 hr).1
        simp at this
        omega
      subst e
      simp at hr
      subst hr
      exact ⟨hi, q, by rw [List.getElem?_append_left hi]; exact hq, hm⟩
theorem onS_came {nx : σ → List (Int × σ)} {i : Nat} {q : Rec6 σ} : ∀ (ts : List (Int × σ)) (S : List (Rec6 σ)), Came nx S → S[i]? = some q → (∀ t ∈ ts, t ∈ nx q.1) → Came nx (onS i S ts)
  | [], S, h, _, _ => h
  | t :: ts, S, h, hq, hm => by
    obtain ⟨h1, h2⟩ := putS_came h hq (hm t (by simp))
    exact onS_came ts _ h1 h2 (fun u hu => hm u (by simp [hu]))
theorem srch_came {nx : σ → List (Int × σ)} : ∀ (f i : Nat) (S : List (Rec6 σ)), Came nx S → Came nx (srch nx f i S)
  | 0, _, S, h => h
  | f + 1, i, S, h => by
    unfold srch
    split
    · exact h
    · rename_i r hr
      exact srch_came f (i + 1) _ (onS_came _ S h hr (fun t ht => ht))
end
end Go.Proofs.YtcdpcfnlflpjnaaDoor

