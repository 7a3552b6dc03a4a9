/-
  Joined: LstM, NorW, NorEnd.
-/
import Derived.Test.YtdojjmkpelgcaaaDoorProg
import Derived.Deep.RegionHeld3
import Derived.KernelRfl
import Derived.Tactics
import Derived.WalkKit
import Derived.WalkSpells
import Derived.WalkLawsBesides
import Derived.RegionTactic
import Derived.BigQuiet
import Derived.Deep.QuietTactic
import Derived.Deep.Slices
import Derived.Deep.Strs
import Derived.Deep.Fields
import Derived.ChangeSame
import Derived.Handy
import Derived.OwnWalk
import Derived.ChangeSlices
import Derived.Lib.SmallJoins
import Derived.Shelf.Abstract
import Derived.Laws.BytesArg
import Derived.Deep.RegionLaw
import Derived.Laws.OwnMore
import Derived.Laws.CopyOwn
import Derived.Laws.Tables
import Derived.BigRegion
import Derived.Maps.AppendAt
import Derived.Stop.Asserts
import Derived.Recover
import Derived.IntWalk
import Derived.Deep.MidRow
import Derived.Laws.RangeString
import Derived.Laws.RangeAny
import Derived.Laws.Bits
import Derived.Lib.FieldsP
import Derived.Shelf.SlSortCmp.NoneTotal
import Derived.Shelf.Spec.SlicesGrow
import Derived.Laws.AppendOwnNone
import Derived.Lib.SliceRun
import Derived.Test.YtdojjmkpelgcaaaDoorRows
import Derived.ProofKit
import Derived.OpenShut
import Derived.LaidMore
import Derived.MakeChecks
import Derived.Stop.LaidErr
import Derived.Test.YtdojjmkpelgcaaaDoorK01
import Derived.Test.YtdojjmkpelgcaaaDoorK02
import Derived.Test.YtdojjmkpelgcaaaDoorK04
import Derived.Test.YtdojjmkpelgcaaaDoorK08
import Derived.Test.YtdojjmkpelgcaaaDoorK09
import Derived.Test.YtdojjmkpelgcaaaDoorK11
import Derived.Test.YtdojjmkpelgcaaaDoorK12
import Derived.Test.YtdojjmkpelgcaaaDoorK13
import Derived.Test.YtdojjmkpelgcaaaDoorK16
import Derived.Test.YtdojjmkpelgcaaaDoorK23
import Derived.Test.YtdojjmkpelgcaaaDoorK25
import Derived.Test.YtdojjmkpelgcaaaDoorK27
import Derived.Test.YtdojjmkpelgcaaaDoorK29
import Derived.Test.YtdojjmkpelgcaaaDoorK30
import Derived.Test.YtdojjmkpelgcaaaDoorK31
import Derived.Test.YtdojjmkpelgcaaaDoorK32
import Derived.Test.YtdojjmkpelgcaaaDoorK39
import Derived.Test.YtdojjmkpelgcaaaDoorK40
import Derived.Test.YtdojjmkpelgcaaaDoorK43
import Derived.Test.YtdojjmkpelgcaaaDoorK47
import Derived.Test.YtdojjmkpelgcaaaDoorK49

/-
  Rows of numbers that were made: the laws' eqIntS, markIntS, heldIntS at them.
-/
namespace Go.Proofs.YtdojjmkpelgcaaaDoor
open Go.RowKit
set_option linter.unusedVariables false

theorem lst_slice {w : World} {B : Nat} {v : Value} {xs : List Int} (h : w.ownsRow B 3 1 v xs.length (xs.map (Value.int .i64))) : ∃ a cap, v = .slice a xs.length cap ∧ Ints .i64 w a xs.length cap xs := by
  obtain ⟨a, cap, rfl⟩ := owns_sliceN h
  exact ⟨a, cap, rfl, ints_of_row h⟩
theorem lst_of {w : World} {B cap : Nat} {a : Option Addr} {xs : List Int} (h : w.ownsRow B 3 1 (.slice a xs.length cap) xs.length (xs.map (Value.int .i64))) : Ints .i64 w a xs.length cap xs := ints_of_row h
theorem eqL_same (a a' : Option Addr) (len cap cap' : Nat) (xs : List Int) (w : World) (h : Ints .i64 w a len cap xs) (h' : Ints .i64 w a' len cap' xs) :
    Calls Tryd.prog 21 #[.slice a len cap, .slice a' len cap'] w fun e w' => e = .returned (.bool true) ∧ Below w.heap.size w w' := by
  refine (eqIntS_same a a' len cap cap' xs w h h').mono ?_
  rintro e w' ⟨rfl, d, rfl⟩
  exact ⟨rfl, below_dN d⟩
theorem markL_any (base : Nat) (v : Value) (k : Int) (xs : List Int) (w : World) (hk0 : 0 ≤ k) (hk : k ≤ 1000000000) (hn : xs.length ≤ 1048576) (ho : w.ownsRow base 3 1 v xs.length (xs.map (Value.int .i64))) :
    Calls Tryd.prog 24 #[v, .int .i64 k] w fun e w' => e = .returned (.int .i64 (k + xs.length)) ∧
      w'.ownsRow base 3 1 v xs.length ((mkTo k xs xs.length).map (Value.int .i64)) ∧ w.grownBy w' v.ownBlock := by
  rcases ho.2 with ⟨rfl, h0⟩ | ⟨g, cap, cur, rfl, _⟩
  · have hx : xs = [] := List.eq_nil_of_length_eq_zero h0
    subst hx
    refine (markIntS_none none 0 k w).mono ?_
    rintro e w' ⟨rfl, rfl⟩
    exact ⟨by simp, ho, World.grownBy.refl _ _⟩
  · refine (markIntS_grown0 base g xs.length cap k xs w hk0 hk hn ho).mono ?_
    rintro e w' ⟨rfl, h1, h2⟩
    exact ⟨rfl, h1, h2⟩
theorem heldL_any (base : Nat) (v : Value) (k : Int) (xs : List Int) (w : World) (hk0 : 0 ≤ k) (hk : k ≤ 1000000000) (hn : xs.length ≤ 1048576) (ho : w.ownsRow base 3 1 v xs.length ((mkTo k xs xs.length).map (Value.int .i64))) :
    Calls Tryd.prog 25 #[v, .int .i64 k] w fun e w' => e = .returned (.int .i64 (k + xs.length)) ∧ w = w' := by
  obtain ⟨a, cap, rfl⟩ := owns_sliceN ho
  exact heldIntS_yes a xs.length cap k (mkTo k xs xs.length) w hk0 hk hn (ints_of_row ho) (fun i hi => mkTo_get k xs xs.length i hi (Nat.le_refl _))
end Go.Proofs.YtdojjmkpelgcaaaDoor


/-
  FnExactNormalOf, given what both answer: the law's walk (marks and all).
-/
namespace Go.Proofs.YtdojjmkpelgcaaaDoor
open Go.RowKit
set_option linter.unusedVariables false
set_option linter.unusedSimpArgs false

theorem fnExactNormalOf_heap {w w' : World} {b e s n : Nat} {v : Value} {xs : List Value} (h : w.ownsRow b e s v n xs) (hq : ∀ j, v.ownBlock = some j → w'.heap[j]? = w.heap[j]?) : w'.ownsRow b e s v n xs := by
  refine ⟨h.1, ?_⟩
  rcases h.2 with h0 | ⟨g, cap, cur, hv, hB, hg, rest⟩
  · exact .inl h0
  · exact .inr ⟨g, cap, cur, hv, hB, by rw [hq g (by rw [hv]; rfl)]; exact hg, rest⟩
theorem fnExactNormalOf_blk {T : TypeId} {w w' : World} {g t : Nat} {cs : List Value} (k : KeptBut T w w') (h : Blk w g t cs) (hT : t ≠ T) : Blk w' g t cs := k g _ t _ h hT

set_option maxHeartbeats 1200000 in
set_option maxRecDepth 100000 in
theorem fnExactNormalOf_of (a0 : Option Addr) (n0 c0 : Nat) (r0 : List (List I3)) (a1 : Option Addr) (n1 c1 : Nat) (ks : List Int) (xs : List Int) (hlf : xs.length ≤ 100000) (cd : Int) (w : World) (h0 : Codes w a0 n0 c0 r0) (h1 : Ints .i64 w a1 n1 c1 ks) (hG : VmShape w)
    (kS : ∀ (a0 : Option Addr) (n0 c0 : Nat) (a1 : Option Addr) (n1 c1 : Nat) (w : World), Codes w a0 n0 c0 r0 → Ints .i64 w a1 n1 c1 ks → Calls Tryd.prog 17 #[.agg #[.slice a0 n0 c0], .slice a1 n1 c1] w fun e w' => LGot e w' w.heap.size xs cd ∧ Below w.heap.size w w')
    (kI : ∀ (a0 : Option Addr) (n0 c0 : Nat) (a1 : Option Addr) (n1 c1 : Nat) (w : World), Codes w a0 n0 c0 r0 → Ints .i64 w a1 n1 c1 ks → VmShape w → Calls Tryd.prog 20 #[.agg #[.slice a0 n0 c0], .slice a1 n1 c1] w fun e w' => LGot e w' w.heap.size xs cd ∧ Below w.heap.size w w') :
    Calls Tryd.prog 4 #[.agg #[.slice a0 n0 c0], .slice a1 n1 c1] w fun e w' => e = .returned (.bool true) ∧ Below w.heap.size w w' := by
  have kT := fun W h => toProgram_copy a0 n0 c0 r0 W h
  have kO := fun W h => toProgram_own a0 n0 c0 r0 W h
  have kL := fun W h hl => toIntS_any a1 n1 c1 ks W h hl
  have hcd : (cd != cd) = false := by simp
  have bw : Below w.heap.size w (w.alloc (.cells #[.slice a0 n0 c0] 42)) := by go_grown
  have p0 : Blk (w.alloc (.cells #[.slice a0 n0 c0] 42)) w.heap.size 42 [.slice a0 n0 c0] := blkAt _ _ _ rfl
  by_cases g1 : 1048576 < n1
  · have g9 : (1048576 : Int) < (n1 : Int) := by omega
    clear g1 kS kI kT kO kL p0
    go_enter Tryd.func4, Tryd.ntmps4
    go_wp2
    go_ret
    exact ⟨rfl, bw⟩
  have e1 : ¬ (1048576 : Int) < (n1 : Int) := by omega
  replace kL := fun W h => kL W h (by omega)
  have hn1 : n1 ≤ 1048576 := by omega
  clear g1
  go_enter Tryd.func4, Tryd.ntmps4
  go_wp2_with fail
  generalize (w.alloc (.cells #[.slice a0 n0 c0] 42)) = W0 at *
  go_wp2_with (first | refine wpList_load_blk rfl 42 _ rfl w.heap.size rfl p0 _ Tryd.underlying42 rfl (by kernel_rfl) ?_)
  have hz := sizeLeft_or r0 1048576 (by omega)
  have hbd := size_bounds (rows := r0) (left := 1048576) (by omega)
  have hcb := fun h => sizeLeft_cnt (rows := r0) (left := 1048576) h
  refine (szProgram_less a0 n0 c0 r0 1048576 _ (h0.below bw) (by omega) (by omega)).mono ?_
  rintro e wz ⟨rfl, hb⟩
  generalize sizeLeft 1048576 r0 = zl at hz hbd hcb
  replace bw := bel_trans bw hb
  replace p0 := p0.below hb
  clear hb
  rcases hz with rfl | ⟨yl, xl⟩
  · clear hbd hcb
    go_wp2
    go_ret
    exact ⟨rfl, bw⟩
  obtain ⟨hr, hr'⟩ := hbd yl (by omega)
  have hcnt := hcb yl
  have hlen : n0 ≤ 1048576 := by rw [← h0.1]; exact hr
  replace kT := fun W h => kT W h hlen (fun t _ => hr' t)
  replace kO := fun W h => kO W h hlen (fun t _ => hr' t)
  have hcl : cntP r0 r0.length ≤ 10000000 := by omega
  have hcj : ∀ j, j ≤ r0.length → cntP r0 j ≤ 10000000 := fun j hj => by have := cntP_mono r0 j; omega
  have HRJ : Hid (∀ j, j < r0.length → (r0.getD j []).length ≤ 1048576) := fun j _ => hr' j
  clear hbd hcb hr hr' hlen hcnt
  have hn0 : decide (zl < 0) = false := by simp; omega
  clear yl xl
  go_wp2_with (first | refine wpList_load_blk rfl 42 _ rfl w.heap.size rfl p0 _ Tryd.underlying42 rfl (by kernel_rfl) ?_)
  refine (kT _ (h0.below bw)).mono ?_
  rintro e wa ⟨rfl, hO, hb⟩
  have hA := hO.codes
  clear hO
  generalize wz.heap.size + 3 = ga at hA ⊢
  replace bw := bel_trans bw hb
  replace p0 := p0.below hb
  clear hb
  go_wp2_with fail
  refine (kL _ (h1.below bw)).mono ?_
  rintro e wb ⟨rfl, hO, hb⟩
  have hB := Ints.of_owns hO
  clear hO
  generalize wa.heap.size = gb at hB ⊢
  replace hA := hA.below hb
  replace bw := bel_trans bw hb
  replace p0 := p0.below hb
  clear hb
  go_wp2_with fail
  refine (kS _ _ _ _ _ _ _ hA hB).mono ?_
  rintro e wS ⟨⟨vS, rfl, qS⟩, hb⟩
  replace bw := bel_trans bw hb
  replace p0 := p0.below hb
  clear hb hA hB kS
  have bv : ∀ j, vS.ownBlock = some j → j < wS.heap.size := fun j hj => (qS.lt j hj).2
  obtain ⟨vSa, vSc, rfl, iS⟩ := lst_slice qS
  clear iS
  go_wp2_with (first | refine wpList_load_blk rfl 42 _ rfl w.heap.size rfl p0 _ Tryd.underlying42 rfl (by kernel_rfl) ?_)
  refine (kO _ (h0.below bw)).mono ?_
  rintro e wx ⟨rfl, hP, hb⟩
  have hBx : w.heap.size ≤ wS.heap.size + 3 := by have := bw.size; omega
  have hSx : wS.heap.size ≤ wx.heap.size := hb.size
  generalize hgx : wS.heap.size + 3 = gx at hP hBx ⊢
  replace bw := bel_trans bw hb
  replace p0 := p0.below hb
  replace qS := owns_below qS hb
  have hgxX : gx ≤ wx.heap.size := by obtain ⟨vs9, h9, _⟩ := hP; have := (h9.lt gx rfl).2; omega
  clear hb hgx
  generalize wS.heap.size = NS at *
  have ha : Below wx.heap.size wx (wx.alloc (.cells #[.slice (some ⟨gx, 0, none⟩) n0 n0] 25)) := by go_grown
  have pX : Blk (wx.alloc (.cells #[.slice (some ⟨gx, 0, none⟩) n0 n0] 25)) wx.heap.size 25 [.slice (some ⟨gx, 0, none⟩) n0 n0] := blkAt _ _ _ rfl
  replace bw := bel_trans bw ha
  replace p0 := p0.below ha
  replace qS := owns_below qS ha
  replace hP := hP.below ha
  have hNp : wx.heap.size ≤ (wx.alloc (.cells #[.slice (some ⟨gx, 0, none⟩) n0 n0] 25)).heap.size := ha.size
  clear ha
  go_wp2_with fail
  generalize wx.alloc (.cells #[.slice (some ⟨gx, 0, none⟩) n0 n0] 25) = wp at *
  generalize wx.heap.size = GX at *
  refine (kL _ (h1.below bw)).mono ?_
  rintro e wy ⟨rfl, oL, hb⟩
  have hgl : NS ≤ wp.heap.size := Nat.le_trans hSx hNp
  have hgw : w.heap.size ≤ wp.heap.size := bw.size
  replace bw := bel_trans bw hb
  replace p0 := p0.below hb
  replace qS := owns_below qS hb
  replace hP := hP.below hb
  replace pX := pX.below hb
  have hly : wp.heap.size < wy.heap.size := (oL.lt _ rfl).2
  generalize wp.heap.size = gl at oL hgl hly hgw ⊢
  clear hb hSx hNp
  have hX := hP.codes9 h0
  have hY := Ints.of_owns oL
  go_wp2_with (first | refine wpList_load_blk rfl 25 _ rfl GX rfl pX _ Tryd.underlying25 rfl (by kernel_rfl) ?_)
  refine (kI _ _ _ _ _ _ _ hX hY (hG.below bw)).mono ?_
  rintro e wI ⟨⟨vG, rfl, qG⟩, hb⟩
  replace bw := bel_trans bw hb
  replace p0 := p0.below hb
  replace qS := owns_below qS hb
  replace hP := hP.below hb
  replace pX := pX.below hb
  replace oL := owns_below oL hb
  generalize wy.heap.size = BG at *
  clear hb hX hY
  obtain ⟨vGa, vGc, rfl, iG⟩ := lst_slice qG
  clear iG
  have hGB : NS < BG := Nat.lt_of_le_of_lt hgl hly
  go_wp2_with fail
  refine (eqL_same vGa vSa xs.length vGc vSc xs _ (lst_of qG) (lst_of qS)).mono ?_
  rintro e u2 ⟨rfl, hb⟩
  replace bw := bel_trans bw hb
  replace p0 := p0.below hb
  replace qS := owns_below qS hb
  replace hP := hP.below hb
  replace pX := pX.below hb
  replace oL := owns_below oL hb
  replace qG := owns_below qG hb
  clear hb
  have b9 := pX.cell 0
  have b8 := p0.cell 0
  simp only [List.getElem?_cons_zero, List.getElem?_cons_succ] at b9 b8
  go_wp2_with fail
  have hdr : Below u2.heap.size u2 u2.drew := by go_grown
  have bd := bel_trans bw hdr
  have hX := hP.codes9 h0
  refine wp_region_held_drew (S := (fun w' => w'.cell? ⟨GX, 0, none⟩ = some (.slice (some ⟨gx, 0, none⟩) n0 n0) ∧ w'.cell? ⟨w.heap.size, 0, none⟩ = some (.slice a0 n0 c0))) (by kernel_rfl) ⟨b9, b8⟩ (fun hS0 => ?_)
  refine tkm 0 52 (.agg #[.slice (some ⟨gx, 0, none⟩) n0 n0]) ?_
  refine tkm 1 53 (.agg #[.slice a0 n0 c0]) ?_
  refine tkr 2 54 (fun K hK => ?_)
  go_simp
  refine (kT _ (h0.below bd)).mono ?_
  rintro e wk ⟨rfl, hO, hb1⟩
  go_wp2_with fail
  refine hK.out _ _ ?_ (fun hS1 => ?_)
  · exact ⟨cells_kept hb1 _ _ hS0.1, cells_kept hb1 _ _ hS0.2⟩
  clear hK
  have hK9 := hO.codes
  clear hO
  refine tkr 3 55 (fun K hK => ?_)
  go_simp
  refine (eqProgram_same _ _ _ _ _ r0 _ (hX.below (bel_trans hdr hb1)) hK9).mono ?_
  rintro e u3 ⟨rfl, hb2⟩
  go_wp2_with fail
  refine hK.out _ _ ?_ (fun hS2 => ?_)
  · exact ⟨cells_kept hb2 _ _ hS1.1, cells_kept hb2 _ _ hS1.2⟩
  clear hK
  refine tkm 4 56 (.bool false) ?_
  refine wpAnyH_done (by kernel_rfl) ?_ _
  have hb9 : Below u2.heap.size u2 u3 := bel_trans hdr (bel_trans hb1 hb2)
  replace bw := bel_trans bw hb9
  replace p0 := p0.below hb9
  replace qS := owns_below qS hb9
  replace hP := hP.below hb9
  replace pX := pX.below hb9
  replace oL := owns_below oL hb9
  replace qG := owns_below qG hb9
  clear hb9 hb1 hb2 hdr bd hS0 hS1 hS2 b9 b8 hX hK9
  go_wp2_with fail
  refine (kL _ (h1.below bw)).mono ?_
  rintro e u4 ⟨rfl, hO, hb⟩
  have hM := Ints.of_owns hO
  clear hO
  replace bw := bel_trans bw hb
  replace p0 := p0.below hb
  replace qS := owns_below qS hb
  replace hP := hP.below hb
  replace pX := pX.below hb
  replace oL := owns_below oL hb
  replace qG := owns_below qG hb
  clear hb
  go_wp2_with fail
  refine (eqIntS_same _ _ _ _ _ ks _ (Ints.of_owns oL) hM).mono ?_
  rintro e u5 ⟨rfl, d5, hd⟩
  subst hd
  have hb := below_dN (w := u4) d5
  replace bw := bel_trans bw hb
  replace p0 := p0.below hb
  replace qS := owns_below qS hb
  replace hP := hP.below hb
  replace pX := pX.below hb
  replace oL := owns_below oL hb
  replace qG := owns_below qG hb
  clear hb hM
  generalize u4.drewN d5 = u5 at *
  have hBW : gx ≤ u5.heap.size := by have := pX.lt; omega
  go_wp2_with (first | refine wpList_load_blk rfl 25 _ rfl GX rfl pX _ Tryd.underlying25 rfl (by kernel_rfl) ?_)
  refine (markProgram_own gx _ 1 r0 _ (by omega) (by omega) hcl hcj HRJ.out hBW hP).mono ?_
  rintro e u6 ⟨rfl, _, kb, hb⟩
  replace bw := bel_transR bw (below_lowR hb hBx)
  replace p0 := fnExactNormalOf_blk kb p0 (by decide)
  replace pX := fnExactNormalOf_blk kb pX (by decide)
  replace qS := kb.owns qS (by decide)
  replace qG := kb.owns qG (by decide)
  replace oL := kb.owns oL (by decide)
  clear kb hb hP hBW
  have hc0 : (0 : Int) ≤ cntP r0 r0.length := by omega
  go_wp2_with fail
  refine (markIntS_grown0 gl gl n1 n1 _ ks _ (by omega) (by omega) hn1 oL).mono ?_
  rintro e u7 ⟨rfl, _, g7⟩
  replace p0 := p0.kept g7 (fun e9 => own_ne_blk oL p0 (by decide) e9)
  replace pX := pX.kept g7 (fun e9 => own_ne_blk oL pX (by decide) e9)
  replace qS := fnExactNormalOf_heap qS fun j hj => g7.block j (qS.lt j hj).2 (fun e => by cases e; have := bv _ hj; omega)
  replace qG := fnExactNormalOf_heap qG fun j hj => g7.block j (qG.lt j hj).2 (fun e => by cases e; have := (qG.lt _ hj).1; omega)
  replace bw := bw.grown g7 bw.size (fun k e => by cases e; omega)
  clear g7 oL
  have hk9 : decide (1 + (cntP r0 r0.length : Int) + (n1 : Int) < 0) = false := by simp; omega
  go_wp2_with fail
  refine (eqL_same vGa vSa xs.length vGc vSc xs _ (lst_of qG) (lst_of qS)).mono ?_
  rintro e u9 ⟨rfl, hb⟩
  replace bw := bel_trans bw hb
  replace p0 := p0.below hb
  replace qS := owns_below qS hb
  replace pX := pX.below hb
  replace qG := owns_below qG hb
  clear hb
  clear hk9
  go_wp2_with fail
  refine (markL_any BG _ 1 xs _ (by omega) (by omega) (by omega) qG).mono ?_
  rintro e v2 ⟨rfl, qG2, g2⟩
  replace p0 := p0.kept g2 (own_ne_blk qG p0 (by decide))
  replace pX := pX.kept g2 (own_ne_blk qG pX (by decide))
  replace qS := fnExactNormalOf_heap qS fun j hj => g2.block j (qS.lt j hj).2 (fun e => by have h1 := (qG.lt j e.symm).1; have := bv _ hj; omega)
  replace bw := bw.grown g2 bw.size (fun k e => by have h1 := (qG.lt k e).1; omega)
  clear g2 qG
  have qG := qG2
  clear qG2
  have hh2 : decide (1 + (xs.length : Int) < 0) = false := by simp; omega
  have hh3 : ((1 + (xs.length : Int)) != (1 + (xs.length : Int))) = false := by simp
  go_wp2_with fail
  refine (heldL_any BG _ 1 xs _ (by omega) (by omega) (by omega) qG).mono ?_
  rintro e h1b ⟨rfl, rfl⟩
  go_wp2_with (first | refine wpList_load_blk rfl 42 _ rfl w.heap.size rfl p0 _ Tryd.underlying42 rfl (by kernel_rfl) ?_)
  refine (kT _ (h0.below bw)).mono ?_
  rintro e xa ⟨rfl, hO, hb⟩
  have hA := hO.codes
  clear hO
  replace bw := bel_trans bw hb
  replace p0 := p0.below hb
  replace qS := owns_below qS hb
  replace pX := pX.below hb
  replace qG := owns_below qG hb
  clear hb
  generalize hga : v2.heap.size + 3 = ga at hA ⊢
  clear hga
  go_wp2_with fail
  refine (kL _ (h1.below bw)).mono ?_
  rintro e xb ⟨rfl, hO, hb⟩
  have hB := Ints.of_owns hO
  clear hO
  replace hA := hA.below hb
  replace bw := bel_trans bw hb
  replace p0 := p0.below hb
  replace qS := owns_below qS hb
  replace pX := pX.below hb
  replace qG := owns_below qG hb
  clear hb
  generalize hgb : xa.heap.size = gb at hB ⊢
  clear hgb
  go_wp2_with fail
  refine (kI _ _ _ _ _ _ _ hA hB (hG.below bw)).mono ?_
  rintro e xc ⟨⟨vH, rfl, qH⟩, hb⟩
  replace bw := bel_trans bw hb
  replace p0 := p0.below hb
  replace qS := owns_below qS hb
  replace pX := pX.below hb
  replace qG := owns_below qG hb
  clear hb hA hB kI
  obtain ⟨vHa, vHc, rfl, iH⟩ := lst_slice qH
  go_wp2_with fail
  refine (eqL_same vHa vSa xs.length vHc vSc xs _ iH (lst_of qS)).mono ?_
  rintro e y2 ⟨rfl, hb⟩
  replace bw := bel_trans bw hb
  replace p0 := p0.below hb
  replace qS := owns_below qS hb
  replace pX := pX.below hb
  replace qG := owns_below qG hb
  clear hb qH iH
  go_wp2_with fail
  refine (heldL_any BG _ 1 xs _ (by omega) (by omega) (by omega) qG).mono ?_
  rintro e h2b ⟨rfl, rfl⟩
  go_wp2
  go_ret
  exact ⟨rfl, bw⟩
end Go.Proofs.YtdojjmkpelgcaaaDoor


/-
  FnExactNormalOf: the walk over what both answer, and what the row's condition on vmShape gives it.
-/
namespace Go.Proofs.YtdojjmkpelgcaaaDoor
open Go.RowKit

theorem fnExactNormalOf_walk (a0 : Option Addr) (n0 c0 : Nat) (r0 : List (List I3)) (a1 : Option Addr) (n1 c1 : Nat) (z1 : List Int) (w : World) (h0 : Codes w a0 n0 c0 r0) (h1 : IsRow .i64 w a1 n1 c1 z1) (hG : VmShape w) :
    Calls Tryd.prog 4 #[.agg #[.slice a0 n0 c0], .slice a1 n1 c1] w fun e w' => e = .returned (.bool true) ∧ Below w.heap.size w w' :=
  fnExactNormalOf_of a0 n0 c0 r0 a1 n1 c1 (z1.take n1) (nrmE (evE r0 (z1.take n1))) (by have h1 := evE_len9 r0 (z1.take n1); have h2 := nrmE_len (evE_three r0 (z1.take n1)); omega) (evK r0 (z1.take n1)) w h0 (Ints.of_isRow h1) hG
    (fun a n c la ln lc w hC hL => specNormalOf_is a n c r0 la ln lc _ w hC hL)
    (fun a n c la ln lc w hC hL hV => implNormalOf_is a n c r0 la ln lc _ w hC hV hL)

theorem fnExactNormalOf_laid {W : World} (h : laidMetH Tryd.prog Rows.fnExactNormalOfRow.laid W) : VmShape W := vmShape_of_laid rfl h
theorem fnExactNormalOf_door_met (os : Os) (args : Array Value) : laidMetH Tryd.prog Rows.fnExactNormalOfRow.laid ((World.doorLaid Tryd.prog 400 os).forCall (fun _ _ => 0) ⟨#[], args, []⟩).memory :=
  laidMetH_of_parts3 (fuel := 8) (laidMet_of_run' 8 (by kernel_rfl) (by kernel_rfl)) (by kernel_rfl) (by kernel_rfl)
end Go.Proofs.YtdojjmkpelgcaaaDoor

