/-
  FnExactEventsOf, part 44 of 50 (EvW, EvD).
-/
import Derived.Test.YtgjmangbigibbaaDoorJ02
import Derived.Test.YtgjmangbigibbaaDoorJ08
import Derived.Test.YtgjmangbigibbaaDoorJ03
import Derived.Test.YtgjmangbigibbaaDoorJ09
import Derived.Test.YtgjmangbigibbaaDoorJ29
import Derived.Test.YtgjmangbigibbaaDoorJ17
import Derived.Test.YtgjmangbigibbaaDoorJ43
import Derived.Deep.RegionHeld3
import Derived.Test.YtgjmangbigibbaaDoorJ37
import Derived.Test.YtgjmangbigibbaaDoorJ19
import Derived.BigQuiet
import Derived.BigRegion

/-
  FnExactEventsOf, given what both answer: the law's walk (marks and all).
-/
namespace Go.Proofs.YtgjmangbigibbaaDoor
open Go.RowKit
set_option linter.unusedVariables false
set_option linter.unusedSimpArgs false

theorem fnExactEventsOf_heap {w w' : World} {b e s n : Nat} {v : Value} {xs : List Value} (h : w.ownsRow b e s v n xs) (hq : ∀ j, v.ownBlock = some j → w'.heap[j]? = w.heap[j]?) : w'.ownsRow b e s v n xs := by
  refine ⟨h.1, ?_⟩
  rcases h.2 with h0 | ⟨g, cap, cur, hv, hB, hg, rest⟩
  · exact .inl h0
  · exact .inr ⟨g, cap, cur, hv, hB, by rw [hq g (by rw [hv]; rfl)]; exact hg, rest⟩
theorem fnExactEventsOf_blk {T : TypeId} {w w' : World} {g t : Nat} {cs : List Value} (k : KeptBut T w w') (h : Blk w g t cs) (hT : t ≠ T) : Blk w' g t cs := k g _ t _ h hT

set_option maxHeartbeats 1200000 in
set_option maxRecDepth 100000 in
theorem fnExactEventsOf_of (a0 : Option Addr) (n0 c0 : Nat) (r0 : List (List I3)) (a1 : Option Addr) (n1 c1 : Nat) (ks : List Int) (xs : List I4) (hlf : xs.length ≤ 100000) (cd : Int) (w : World) (h0 : Codes w a0 n0 c0 r0) (h1 : Ints .i64 w a1 n1 c1 ks) (hG : VmShape w)
    (kS : ∀ (a0 : Option Addr) (n0 c0 : Nat) (a1 : Option Addr) (n1 c1 : Nat) (w : World), Codes w a0 n0 c0 r0 → Ints .i64 w a1 n1 c1 ks → Calls Tryd.prog 32 #[.agg #[.slice a0 n0 c0], .slice a1 n1 c1] w fun e w' => EvGot e w' w.heap.size xs cd ∧ Below w.heap.size w w')
    (kI : ∀ (a0 : Option Addr) (n0 c0 : Nat) (a1 : Option Addr) (n1 c1 : Nat) (w : World), Codes w a0 n0 c0 r0 → Ints .i64 w a1 n1 c1 ks → VmShape w → Calls Tryd.prog 33 #[.agg #[.slice a0 n0 c0], .slice a1 n1 c1] w fun e w' => EvGot e w' w.heap.size xs cd ∧ Below w.heap.size w w') :
    Calls Tryd.prog 6 #[.agg #[.slice a0 n0 c0], .slice a1 n1 c1] w fun e w' => e = .returned (.bool true) ∧ Below w.heap.size w w' := by
  have kT := fun W h => toProgram_copy a0 n0 c0 r0 W h
  have kO := fun W h => toProgram_own a0 n0 c0 r0 W h
  have kL := fun W h hl => toIntS_any a1 n1 c1 ks W h hl
  have hcd : (cd != cd) = false := by simp
  have bw : Below w.heap.size w (w.alloc (.cells #[.slice a0 n0 c0] 52)) := by go_grown
  have p0 : Blk (w.alloc (.cells #[.slice a0 n0 c0] 52)) w.heap.size 52 [.slice a0 n0 c0] := blkAt _ _ _ rfl
  by_cases g1 : 1048576 < n1
  · have g9 : (1048576 : Int) < (n1 : Int) := by omega
    clear g1 kS kI kT kO kL p0
    go_enter Tryd.func6, Tryd.ntmps6
    go_wp2
    go_ret
    exact ⟨rfl, bw⟩
  have e1 : ¬ (1048576 : Int) < (n1 : Int) := by omega
  replace kL := fun W h => kL W h (by omega)
  have hn1 : n1 ≤ 1048576 := by omega
  clear g1
  go_enter Tryd.func6, Tryd.ntmps6
  go_wp2_with fail
  generalize (w.alloc (.cells #[.slice a0 n0 c0] 52)) = W0 at *
  go_wp2_with (first | refine wpList_load_blk rfl 52 _ rfl w.heap.size rfl p0 _ Tryd.underlying52 rfl (by kernel_rfl) ?_)
  have hz := sizeLeft_or r0 1048576 (by omega)
  have hbd := size_bounds (rows := r0) (left := 1048576) (by omega)
  have hcb := fun h => sizeLeft_cnt (rows := r0) (left := 1048576) h
  refine (szProgram_less a0 n0 c0 r0 1048576 _ (h0.below bw) (by omega) (by omega)).mono ?_
  rintro e wz ⟨rfl, hb⟩
  generalize sizeLeft 1048576 r0 = zl at hz hbd hcb
  replace bw := bel_trans bw hb
  replace p0 := p0.below hb
  clear hb
  rcases hz with rfl | ⟨yl, xl⟩
  · clear hbd hcb
    go_wp2
    go_ret
    exact ⟨rfl, bw⟩
  obtain ⟨hr, hr'⟩ := hbd yl (by omega)
  have hcnt := hcb yl
  have hlen : n0 ≤ 1048576 := by rw [← h0.1]; exact hr
  replace kT := fun W h => kT W h hlen (fun t _ => hr' t)
  replace kO := fun W h => kO W h hlen (fun t _ => hr' t)
  have hcl : cntP r0 r0.length ≤ 10000000 := by omega
  have hcj : ∀ j, j ≤ r0.length → cntP r0 j ≤ 10000000 := fun j hj => by have := cntP_mono r0 j; omega
  have HRJ : Hid (∀ j, j < r0.length → (r0.getD j []).length ≤ 1048576) := fun j _ => hr' j
  clear hbd hcb hr hr' hlen hcnt
  have hn0 : decide (zl < 0) = false := by simp; omega
  clear yl xl
  go_wp2_with (first | refine wpList_load_blk rfl 52 _ rfl w.heap.size rfl p0 _ Tryd.underlying52 rfl (by kernel_rfl) ?_)
  refine (kT _ (h0.below bw)).mono ?_
  rintro e wa ⟨rfl, hO, hb⟩
  have hA := hO.codes
  clear hO
  generalize wz.heap.size + 3 = ga at hA ⊢
  replace bw := bel_trans bw hb
  replace p0 := p0.below hb
  clear hb
  go_wp2_with fail
  refine (kL _ (h1.below bw)).mono ?_
  rintro e wb ⟨rfl, hO, hb⟩
  have hB := Ints.of_owns hO
  clear hO
  generalize wa.heap.size = gb at hB ⊢
  replace hA := hA.below hb
  replace bw := bel_trans bw hb
  replace p0 := p0.below hb
  clear hb
  go_wp2_with fail
  refine (kS _ _ _ _ _ _ _ hA hB).mono ?_
  rintro e wS ⟨⟨vS, rfl, qS⟩, hb⟩
  replace bw := bel_trans bw hb
  replace p0 := p0.below hb
  clear hb hA hB kS
  have bv : ∀ j, vS.ownBlock = some j → j < wS.heap.size := fun j hj => (qS.lt j hj).2
  obtain ⟨vSa, vSc, rfl, iS⟩ := evs_slice qS
  clear iS
  go_wp2_with (first | refine wpList_load_blk rfl 52 _ rfl w.heap.size rfl p0 _ Tryd.underlying52 rfl (by kernel_rfl) ?_)
  refine (kO _ (h0.below bw)).mono ?_
  rintro e wx ⟨rfl, hP, hb⟩
  have hBx : w.heap.size ≤ wS.heap.size + 3 := by have := bw.size; omega
  have hSx : wS.heap.size ≤ wx.heap.size := hb.size
  generalize hgx : wS.heap.size + 3 = gx at hP hBx ⊢
  replace bw := bel_trans bw hb
  replace p0 := p0.below hb
  replace qS := owns_below qS hb
  have hgxX : gx ≤ wx.heap.size := by obtain ⟨vs9, h9, _⟩ := hP; have := (h9.lt gx rfl).2; omega
  clear hb hgx
  generalize wS.heap.size = NS at *
  have ha : Below wx.heap.size wx (wx.alloc (.cells #[.slice (some ⟨gx, 0, none⟩) n0 n0] 25)) := by go_grown
  have pX : Blk (wx.alloc (.cells #[.slice (some ⟨gx, 0, none⟩) n0 n0] 25)) wx.heap.size 25 [.slice (some ⟨gx, 0, none⟩) n0 n0] := blkAt _ _ _ rfl
  replace bw := bel_trans bw ha
  replace p0 := p0.below ha
  replace qS := owns_below qS ha
  replace hP := hP.below ha
  have hNp : wx.heap.size ≤ (wx.alloc (.cells #[.slice (some ⟨gx, 0, none⟩) n0 n0] 25)).heap.size := ha.size
  clear ha
  go_wp2_with fail
  generalize wx.alloc (.cells #[.slice (some ⟨gx, 0, none⟩) n0 n0] 25) = wp at *
  generalize wx.heap.size = GX at *
  refine (kL _ (h1.below bw)).mono ?_
  rintro e wy ⟨rfl, oL, hb⟩
  have hgl : NS ≤ wp.heap.size := Nat.le_trans hSx hNp
  have hgw : w.heap.size ≤ wp.heap.size := bw.size
  replace bw := bel_trans bw hb
  replace p0 := p0.below hb
  replace qS := owns_below qS hb
  replace hP := hP.below hb
  replace pX := pX.below hb
  have hly : wp.heap.size < wy.heap.size := (oL.lt _ rfl).2
  generalize wp.heap.size = gl at oL hgl hly hgw ⊢
  clear hb hSx hNp
  have hX := hP.codes9 h0
  have hY := Ints.of_owns oL
  go_wp2_with (first | refine wpList_load_blk rfl 25 _ rfl GX rfl pX _ Tryd.underlying25 rfl (by kernel_rfl) ?_)
  refine (kI _ _ _ _ _ _ _ hX hY (hG.below bw)).mono ?_
  rintro e wI ⟨⟨vG, rfl, qG⟩, hb⟩
  replace bw := bel_trans bw hb
  replace p0 := p0.below hb
  replace qS := owns_below qS hb
  replace hP := hP.below hb
  replace pX := pX.below hb
  replace oL := owns_below oL hb
  generalize wy.heap.size = BG at *
  clear hb hX hY
  obtain ⟨vGa, vGc, rfl, iG⟩ := evs_slice qG
  clear iG
  have hGB : NS < BG := Nat.lt_of_le_of_lt hgl hly
  go_wp2_with fail
  refine (eqEventS_same vGa vSa xs.length vGc vSc xs _ (evs_of qG) (evs_of qS)).mono ?_
  rintro e u2 ⟨rfl, hb⟩
  replace bw := bel_trans bw hb
  replace p0 := p0.below hb
  replace qS := owns_below qS hb
  replace hP := hP.below hb
  replace pX := pX.below hb
  replace oL := owns_below oL hb
  replace qG := owns_below qG hb
  clear hb
  have b9 := pX.cell 0
  have b8 := p0.cell 0
  simp only [List.getElem?_cons_zero, List.getElem?_cons_succ] at b9 b8
  go_wp2_with fail
  have hdr : Below u2.heap.size u2 u2.drew := by go_grown
  have bd := bel_trans bw hdr
  have hX := hP.codes9 h0
  refine wp_region_held_drew (S := (fun w' => w'.cell? ⟨GX, 0, none⟩ = some (.slice (some ⟨gx, 0, none⟩) n0 n0) ∧ w'.cell? ⟨w.heap.size, 0, none⟩ = some (.slice a0 n0 c0))) (by kernel_rfl) ⟨b9, b8⟩ (fun hS0 => ?_)
  refine wpAnyH_take (i := 0) (oi := { dst := some 52, op := _, type := _, pos := _, after := _, guard := _ }) (v := .agg #[.slice (some ⟨gx, 0, none⟩) n0 n0]) rfl (by kernel_rfl) (by kernel_rfl) (by kernel_rfl) (fun _ _ _ h => h) (Or.inl ⟨by rfl, ?_⟩) (by assumption) ?_
  · (intro w' hSw; (try dsimp only at hSw); go_simp; try rfl)
  simp only [Act.put, List.setIfInBounds_toArray, List.set_cons_zero, List.set_cons_succ]
  refine wpAnyH_take (i := 1) (oi := { dst := some 53, op := _, type := _, pos := _, after := _, guard := _ }) (v := .agg #[.slice a0 n0 c0]) rfl (by kernel_rfl) (by kernel_rfl) (by kernel_rfl) (fun _ _ _ h => h) (Or.inl ⟨by rfl, ?_⟩) (by assumption) ?_
  · (intro w' hSw; (try dsimp only at hSw); go_simp; try rfl)
  simp only [Act.put, List.setIfInBounds_toArray, List.set_cons_zero, List.set_cons_succ]
  refine wpAnyH_ready (rs := [2]) (by kernel_rfl) (by simp) ?_
  refine AllReadyH.cons (o := { dst := some 54, op := _, type := _, pos := _, after := _, guard := _ }) rfl (fun K hK => ?_) AllReadyH.nil
  go_simp
  refine (kT _ (h0.below bd)).mono ?_
  rintro e wk ⟨rfl, hO, hb1⟩
  go_wp2_with fail
  refine hK.out _ _ ?_ (fun hS1 => ?_)
  · exact ⟨cells_kept hb1 _ _ hS0.1, cells_kept hb1 _ _ hS0.2⟩
  clear hK
  have hK9 := hO.codes
  clear hO
  refine wpAnyH_ready (rs := [3]) (by kernel_rfl) (by simp) ?_
  refine AllReadyH.cons (o := { dst := some 55, op := _, type := _, pos := _, after := _, guard := _ }) rfl (fun K hK => ?_) AllReadyH.nil
  go_simp
  refine (eqProgram_same _ _ _ _ _ r0 _ (hX.below (bel_trans hdr hb1)) hK9).mono ?_
  rintro e u3 ⟨rfl, hb2⟩
  go_wp2_with fail
  refine hK.out _ _ ?_ (fun hS2 => ?_)
  · exact ⟨cells_kept hb2 _ _ hS1.1, cells_kept hb2 _ _ hS1.2⟩
  clear hK
  refine wpAnyH_take (i := 4) (oi := { dst := some 56, op := _, type := _, pos := _, after := _, guard := _ }) (v := .bool false) rfl (by kernel_rfl) (by kernel_rfl) (by kernel_rfl) (fun _ _ _ h => h) (Or.inl ⟨by rfl, ?_⟩) (by assumption) ?_
  · (intro w' hSw; (try dsimp only at hSw); go_simp; try rfl)
  simp only [Act.put, List.setIfInBounds_toArray, List.set_cons_zero, List.set_cons_succ]
  refine wpAnyH_done (by kernel_rfl) ?_ _
  have hb9 : Below u2.heap.size u2 u3 := bel_trans hdr (bel_trans hb1 hb2)
  replace bw := bel_trans bw hb9
  replace p0 := p0.below hb9
  replace qS := owns_below qS hb9
  replace hP := hP.below hb9
  replace pX := pX.below hb9
  replace oL := owns_below oL hb9
  replace qG := owns_below qG hb9
  clear hb9 hb1 hb2 hdr bd hS0 hS1 hS2 b9 b8 hX hK9
  go_wp2_with fail
  refine (kL _ (h1.below bw)).mono ?_
  rintro e u4 ⟨rfl, hO, hb⟩
  have hM := Ints.of_owns hO
  clear hO
  replace bw := bel_trans bw hb
  replace p0 := p0.below hb
  replace qS := owns_below qS hb
  replace hP := hP.below hb
  replace pX := pX.below hb
  replace oL := owns_below oL hb
  replace qG := owns_below qG hb
  clear hb
  go_wp2_with fail
  refine (eqIntS_same _ _ _ _ _ ks _ (Ints.of_owns oL) hM).mono ?_
  rintro e u5 ⟨rfl, d5, hd⟩
  subst hd
  have hb := below_dN (w := u4) d5
  replace bw := bel_trans bw hb
  replace p0 := p0.below hb
  replace qS := owns_below qS hb
  replace hP := hP.below hb
  replace pX := pX.below hb
  replace oL := owns_below oL hb
  replace qG := owns_below qG hb
  clear hb hM
  generalize u4.drewN d5 = u5 at *
  have hBW : gx ≤ u5.heap.size := by have := pX.lt; omega
  go_wp2_with (first | refine wpList_load_blk rfl 25 _ rfl GX rfl pX _ Tryd.underlying25 rfl (by kernel_rfl) ?_)
  refine (markProgram_own gx _ 1 r0 _ (by omega) (by omega) hcl hcj HRJ.out hBW hP).mono ?_
  rintro e u6 ⟨rfl, _, kb, hb⟩
  replace bw := bel_transR bw (below_lowR hb hBx)
  replace p0 := fnExactEventsOf_blk kb p0 (by decide)
  replace pX := fnExactEventsOf_blk kb pX (by decide)
  replace qS := kb.owns qS (by decide)
  replace qG := kb.owns qG (by decide)
  replace oL := kb.owns oL (by decide)
  clear kb hb hP hBW
  have hc0 : (0 : Int) ≤ cntP r0 r0.length := by omega
  go_wp2_with fail
  refine (markIntS_grown0 gl gl n1 n1 _ ks _ (by omega) (by omega) hn1 oL).mono ?_
  rintro e u7 ⟨rfl, _, g7⟩
  replace p0 := p0.kept g7 (fun e9 => own_ne_blk oL p0 (by decide) e9)
  replace pX := pX.kept g7 (fun e9 => own_ne_blk oL pX (by decide) e9)
  replace qS := fnExactEventsOf_heap qS fun j hj => g7.block j (qS.lt j hj).2 (fun e => by cases e; have := bv _ hj; omega)
  replace qG := fnExactEventsOf_heap qG fun j hj => g7.block j (qG.lt j hj).2 (fun e => by cases e; have := (qG.lt _ hj).1; omega)
  replace bw := bw.grown g7 bw.size (fun k e => by cases e; omega)
  clear g7 oL
  have hk9 : decide (1 + (cntP r0 r0.length : Int) + (n1 : Int) < 0) = false := by simp; omega
  go_wp2_with fail
  refine (eqEventS_same vGa vSa xs.length vGc vSc xs _ (evs_of qG) (evs_of qS)).mono ?_
  rintro e u9 ⟨rfl, hb⟩
  replace bw := bel_trans bw hb
  replace p0 := p0.below hb
  replace qS := owns_below qS hb
  replace pX := pX.below hb
  replace qG := owns_below qG hb
  clear hb
  clear hk9
  go_wp2_with fail
  refine (markEventS_any BG _ 1 xs _ (by omega) (by omega) (by omega) qG).mono ?_
  rintro e v2 ⟨rfl, qG2, g2⟩
  replace p0 := p0.kept g2 (own_ne_blk qG p0 (by decide))
  replace pX := pX.kept g2 (own_ne_blk qG pX (by decide))
  replace qS := fnExactEventsOf_heap qS fun j hj => g2.block j (qS.lt j hj).2 (fun e => by have h1 := (qG.lt j e.symm).1; have := bv _ hj; omega)
  replace bw := bw.grown g2 bw.size (fun k e => by have h1 := (qG.lt k e).1; omega)
  clear g2 qG
  have qG := qG2
  clear qG2
  have hh2 : decide (1 + (xs.length : Int) * 4 < 0) = false := by simp; omega
  have hh3 : ((1 + (xs.length : Int) * 4) != (1 + (xs.length : Int) * 4)) = false := by simp
  go_wp2_with fail
  refine (heldEventS_any BG _ 1 xs _ (by omega) (by omega) (by omega) qG).mono ?_
  rintro e h1b ⟨rfl, rfl⟩
  go_wp2_with (first | refine wpList_load_blk rfl 52 _ rfl w.heap.size rfl p0 _ Tryd.underlying52 rfl (by kernel_rfl) ?_)
  refine (kT _ (h0.below bw)).mono ?_
  rintro e xa ⟨rfl, hO, hb⟩
  have hA := hO.codes
  clear hO
  replace bw := bel_trans bw hb
  replace p0 := p0.below hb
  replace qS := owns_below qS hb
  replace pX := pX.below hb
  replace qG := owns_below qG hb
  clear hb
  generalize hga : v2.heap.size + 3 = ga at hA ⊢
  clear hga
  go_wp2_with fail
  refine (kL _ (h1.below bw)).mono ?_
  rintro e xb ⟨rfl, hO, hb⟩
  have hB := Ints.of_owns hO
  clear hO
  replace hA := hA.below hb
  replace bw := bel_trans bw hb
  replace p0 := p0.below hb
  replace qS := owns_below qS hb
  replace pX := pX.below hb
  replace qG := owns_below qG hb
  clear hb
  generalize hgb : xa.heap.size = gb at hB ⊢
  clear hgb
  go_wp2_with fail
  refine (kI _ _ _ _ _ _ _ hA hB (hG.below bw)).mono ?_
  rintro e xc ⟨⟨vH, rfl, qH⟩, hb⟩
  replace bw := bel_trans bw hb
  replace p0 := p0.below hb
  replace qS := owns_below qS hb
  replace pX := pX.below hb
  replace qG := owns_below qG hb
  clear hb hA hB kI
  obtain ⟨vHa, vHc, rfl, iH⟩ := evs_slice qH
  go_wp2_with fail
  refine (eqEventS_same vHa vSa xs.length vHc vSc xs _ iH (evs_of qS)).mono ?_
  rintro e y2 ⟨rfl, hb⟩
  replace bw := bel_trans bw hb
  replace p0 := p0.below hb
  replace qS := owns_below qS hb
  replace pX := pX.below hb
  replace qG := owns_below qG hb
  clear hb qH iH
  go_wp2_with fail
  refine (heldEventS_any BG _ 1 xs _ (by omega) (by omega) (by omega) qG).mono ?_
  rintro e h2b ⟨rfl, rfl⟩
  go_wp2
  go_ret
  exact ⟨rfl, bw⟩
end Go.Proofs.YtgjmangbigibbaaDoor


/-
  The specification's l05Event.
-/
namespace Go.Proofs.YtgjmangbigibbaaDoor
open Go.RowKit
set_option linter.unusedVariables false
set_option linter.unusedSimpArgs false

set_option maxHeartbeats 1600000 in
set_option maxRecDepth 100000 in
theorem l05Event_raw (b9 off9 cap b0 o0 c0 : Nat) (a1 : Option Addr) (n1 c1 : Nat) (a2 : Option Addr) (n2 c2 : Nat) (a3 : Option Addr) (n3 c3 : Nat) (k p b off n c : Nat) (x0 x1 x2 : Int) (w : World) (hk : k < 3) (hp : p < n) (hx : -1000 ≤ x1 ∧ x1 ≤ 1000)
    (f0 : w.cell? ⟨b9, off9 + k, none⟩ = some (.slice (some ⟨b, off, none⟩) n c)) (e1 : w.cell? ⟨b0, o0 + k, none⟩ = some (.int .i64 p)) (q0 : w.cell? ⟨b, off + p * 3, none⟩ = some (.int .i64 x0)) (q1 : w.cell? ⟨b, off + p * 3 + 1, none⟩ = some (.int .i64 x1)) (q2 : w.cell? ⟨b, off + p * 3 + 2, none⟩ = some (.int .i64 x2)) :
    Calls Tryd.prog 109 #[.agg #[.slice (some ⟨b9, off9, none⟩) 3 cap], .agg #[.slice (some ⟨b0, o0, none⟩) 3 c0, .slice a1 n1 c1, .slice a2 n2 c2, .slice a3 n3 c3], .int .i64 k] w fun e w' => e = .returned (.agg #[.int .i64 k, .int .i64 p, .int .i64 x0, .int .i64 (objM (x0, x1, x2))]) ∧ Below w.heap.size w w' := by
  have hk3 : (k : Int) < 3 := by omega
  have hpn : (p : Int) < (n : Int) := by omega
  have kO := l05Obj_is x0 x1 x2 hx
  generalize objM (x0, x1, x2) = ob at *
  have hl0 : b0 < w.heap.size := World.block_lt_of_cell? _ _ e1
  have bw : Below w.heap.size w (((w.alloc (.cells #[.slice (some ⟨b9, off9, none⟩) 3 cap] 25)).alloc (.cells #[.slice (some ⟨b0, o0, none⟩) 3 c0, .slice a1 n1 c1, .slice a2 n2 c2, .slice a3 n3 c3] 30)).alloc (.cells #[.int .i64 0, .int .i64 0, .int .i64 0, .int .i64 0] 107)) := by go_grown
  have pP : Blk (((w.alloc (.cells #[.slice (some ⟨b9, off9, none⟩) 3 cap] 25)).alloc (.cells #[.slice (some ⟨b0, o0, none⟩) 3 c0, .slice a1 n1 c1, .slice a2 n2 c2, .slice a3 n3 c3] 30)).alloc (.cells #[.int .i64 0, .int .i64 0, .int .i64 0, .int .i64 0] 107)) w.heap.size 25 [.slice (some ⟨b9, off9, none⟩) 3 cap] := blkOld _ (blkOld _ (blkAt _ _ _ rfl))
  have pS : Blk (((w.alloc (.cells #[.slice (some ⟨b9, off9, none⟩) 3 cap] 25)).alloc (.cells #[.slice (some ⟨b0, o0, none⟩) 3 c0, .slice a1 n1 c1, .slice a2 n2 c2, .slice a3 n3 c3] 30)).alloc (.cells #[.int .i64 0, .int .i64 0, .int .i64 0, .int .i64 0] 107)) (w.heap.size + 1) 30 [.slice (some ⟨b0, o0, none⟩) 3 c0, .slice a1 n1 c1, .slice a2 n2 c2, .slice a3 n3 c3] := blkOld _ (blkAt _ _ _ (by simp))
  have pR : Blk (((w.alloc (.cells #[.slice (some ⟨b9, off9, none⟩) 3 cap] 25)).alloc (.cells #[.slice (some ⟨b0, o0, none⟩) 3 c0, .slice a1 n1 c1, .slice a2 n2 c2, .slice a3 n3 c3] 30)).alloc (.cells #[.int .i64 0, .int .i64 0, .int .i64 0, .int .i64 0] 107)) (w.heap.size + 2) 107 [.int .i64 0, .int .i64 0, .int .i64 0, .int .i64 0] := blkAt _ _ _ (by simp)
  replace f0 := cells_kept bw _ _ f0
  replace e1 := cells_kept bw _ _ e1
  replace q0 := cells_kept bw _ _ q0
  replace q1 := cells_kept bw _ _ q1
  replace q2 := cells_kept bw _ _ q2
  have cP := pP.cell 0
  have cS := pS.cell 0
  simp only [List.getElem?_cons_zero] at cP cS
  go_enter Tryd.func109, Tryd.ntmps109
  go_wp2_with fail
  have hX9 : w.heap.size + 2 < (((w.alloc (.cells #[.slice (some ⟨b9, off9, none⟩) 3 cap] 25)).alloc (.cells #[.slice (some ⟨b0, o0, none⟩) 3 c0, .slice a1 n1 c1, .slice a2 n2 c2, .slice a3 n3 c3] 30)).alloc (.cells #[.int .i64 0, .int .i64 0, .int .i64 0, .int .i64 0] 107)).heap.size := pR.lt
  generalize (((w.alloc (.cells #[.slice (some ⟨b9, off9, none⟩) 3 cap] 25)).alloc (.cells #[.slice (some ⟨b0, o0, none⟩) 3 c0, .slice a1 n1 c1, .slice a2 n2 c2, .slice a3 n3 c3] 30)).alloc (.cells #[.int .i64 0, .int .i64 0, .int .i64 0, .int .i64 0] 107)) = W at *
  refine wp_region_held_drew (S := (fun w' => w'.cell? ⟨w.heap.size, 0, none⟩ = some (.slice (some ⟨b9, off9, none⟩) 3 cap) ∧ w'.cell? ⟨b9, off9 + k, none⟩ = some (.slice (some ⟨b, off, none⟩) n c) ∧ w'.cell? ⟨w.heap.size + 1, 0, none⟩ = some (.slice (some ⟨b0, o0, none⟩) 3 c0) ∧ w'.cell? ⟨b0, o0 + k, none⟩ = some (.int .i64 p) ∧ w'.cell? ⟨b, off + p * 3, none⟩ = some (.int .i64 x0) ∧ w'.cell? ⟨b, off + p * 3 + 1, none⟩ = some (.int .i64 x1) ∧ w'.cell? ⟨b, off + p * 3 + 2, none⟩ = some (.int .i64 x2))) (by kernel_rfl) ⟨cP, f0, cS, e1, q0, q1, q2⟩ (fun hS0 => ?_)
  refine wpAnyH_take (i := 0) (oi := { dst := some 8, op := _, type := _, pos := _, after := _, guard := _ }) (v := .pointer (some ⟨w.heap.size, 0, none⟩)) rfl (by kernel_rfl) (by kernel_rfl) (by kernel_rfl) (fun _ _ _ h => h) (Or.inl ⟨by rfl, ?_⟩) (by assumption) ?_
  · (intro w' hSw; (try dsimp only at hSw); go_simp; try rfl)
  simp only [Act.put, List.setIfInBounds_toArray, List.set_cons_zero, List.set_cons_succ]
  refine wpAnyH_take (i := 1) (oi := { dst := some 9, op := _, type := _, pos := _, after := _, guard := _ }) (v := .slice (some ⟨b9, off9, none⟩) 3 cap) rfl (by kernel_rfl) (by kernel_rfl) (by kernel_rfl) (fun _ _ _ h => h) (Or.inl ⟨by rfl, ?_⟩) (by assumption) ?_
  · (intro w' hSw; (try dsimp only at hSw); go_simp; try rfl)
  simp only [Act.put, List.setIfInBounds_toArray, List.set_cons_zero, List.set_cons_succ]
  refine wpAnyH_take (i := 2) (oi := { dst := some 10, op := _, type := _, pos := _, after := _, guard := _ }) (v := .int .i64 (k : Int)) rfl (by kernel_rfl) (by kernel_rfl) (by kernel_rfl) (fun _ _ _ h => h) (Or.inl ⟨by rfl, ?_⟩) (by assumption) ?_
  · (intro w' hSw; (try dsimp only at hSw); go_simp; try rfl)
  simp only [Act.put, List.setIfInBounds_toArray, List.set_cons_zero, List.set_cons_succ]
  refine wpAnyH_take (i := 3) (oi := { dst := some 11, op := _, type := _, pos := _, after := _, guard := _ }) (v := .pointer (some ⟨b9, off9 + k, none⟩)) rfl (by kernel_rfl) (by kernel_rfl) (by kernel_rfl) (fun _ _ _ h => h) (Or.inl ⟨by rfl, ?_⟩) (by assumption) ?_
  · (intro w' hSw; (try dsimp only at hSw); go_simp; try rfl)
  simp only [Act.put, List.setIfInBounds_toArray, List.set_cons_zero, List.set_cons_succ]
  refine wpAnyH_take (i := 4) (oi := { dst := some 12, op := _, type := _, pos := _, after := _, guard := _ }) (v := .slice (some ⟨b, off, none⟩) n c) rfl (by kernel_rfl) (by kernel_rfl) (by kernel_rfl) (fun _ _ _ h => h) (Or.inl ⟨by rfl, ?_⟩) (by assumption) ?_
  · (intro w' hSw; (try dsimp only at hSw); go_simp; try rfl)
  simp only [Act.put, List.setIfInBounds_toArray, List.set_cons_zero, List.set_cons_succ]
  refine wpAnyH_take (i := 5) (oi := { dst := some 13, op := _, type := _, pos := _, after := _, guard := _ }) (v := .pointer (some ⟨w.heap.size + 1, 0, none⟩)) rfl (by kernel_rfl) (by kernel_rfl) (by kernel_rfl) (fun _ _ _ h => h) (Or.inl ⟨by rfl, ?_⟩) (by assumption) ?_
  · (intro w' hSw; (try dsimp only at hSw); go_simp; try rfl)
  simp only [Act.put, List.setIfInBounds_toArray, List.set_cons_zero, List.set_cons_succ]
  refine wpAnyH_take (i := 6) (oi := { dst := some 14, op := _, type := _, pos := _, after := _, guard := _ }) (v := .slice (some ⟨b0, o0, none⟩) 3 c0) rfl (by kernel_rfl) (by kernel_rfl) (by kernel_rfl) (fun _ _ _ h => h) (Or.inl ⟨by rfl, ?_⟩) (by assumption) ?_
  · (intro w' hSw; (try dsimp only at hSw); go_simp; try rfl)
  simp only [Act.put, List.setIfInBounds_toArray, List.set_cons_zero, List.set_cons_succ]
  refine wpAnyH_take (i := 7) (oi := { dst := some 15, op := _, type := _, pos := _, after := _, guard := _ }) (v := .int .i64 (k : Int)) rfl (by kernel_rfl) (by kernel_rfl) (by kernel_rfl) (fun _ _ _ h => h) (Or.inl ⟨by rfl, ?_⟩) (by assumption) ?_
  · (intro w' hSw; (try dsimp only at hSw); go_simp; try rfl)
  simp only [Act.put, List.setIfInBounds_toArray, List.set_cons_zero, List.set_cons_succ]
  refine wpAnyH_take (i := 8) (oi := { dst := some 16, op := _, type := _, pos := _, after := _, guard := _ }) (v := .pointer (some ⟨b0, o0 + k, none⟩)) rfl (by kernel_rfl) (by kernel_rfl) (by kernel_rfl) (fun _ _ _ h => h) (Or.inl ⟨by rfl, ?_⟩) (by assumption) ?_
  · (intro w' hSw; (try dsimp only at hSw); go_simp; try rfl)
  simp only [Act.put, List.setIfInBounds_toArray, List.set_cons_zero, List.set_cons_succ]
  refine wpAnyH_take (i := 9) (oi := { dst := some 17, op := _, type := _, pos := _, after := _, guard := _ }) (v := .int .i64 p) rfl (by kernel_rfl) (by kernel_rfl) (by kernel_rfl) (fun _ _ _ h => h) (Or.inl ⟨by rfl, ?_⟩) (by assumption) ?_
  · (intro w' hSw; (try dsimp only at hSw); go_simp; try rfl)
  simp only [Act.put, List.setIfInBounds_toArray, List.set_cons_zero, List.set_cons_succ]
  refine wpAnyH_take (i := 10) (oi := { dst := some 18, op := _, type := _, pos := _, after := _, guard := _ }) (v := .pointer (some ⟨b, off + p * 3, none⟩)) rfl (by kernel_rfl) (by kernel_rfl) (by kernel_rfl) (fun _ _ _ h => h) (Or.inl ⟨by rfl, ?_⟩) (by assumption) ?_
  · (intro w' hSw; (try dsimp only at hSw); go_simp; try rfl)
  simp only [Act.put, List.setIfInBounds_toArray, List.set_cons_zero, List.set_cons_succ]
  refine wpAnyH_take (i := 11) (oi := { dst := some 19, op := _, type := _, pos := _, after := _, guard := _ }) (v := .agg #[.int .i64 x0, .int .i64 x1, .int .i64 x2]) rfl (by kernel_rfl) (by kernel_rfl) (by kernel_rfl) (fun _ _ _ h => h) (Or.inl ⟨by rfl, ?_⟩) (by assumption) ?_
  · (intro w' hSw; (try dsimp only at hSw); go_simp; try rfl)
  simp only [Act.put, List.setIfInBounds_toArray, List.set_cons_zero, List.set_cons_succ]
  refine wpAnyH_ready (rs := [12]) (by kernel_rfl) (by simp) ?_
  refine AllReadyH.cons (o := { dst := some 7, op := _, type := _, pos := _, after := _, guard := _ }) rfl (fun K hK => ?_) AllReadyH.nil
  have hal : Below W.drew.heap.size W.drew (W.drew.alloc (.cells #[.int .i64 0, .int .i64 0, .int .i64 0] 125)) := by go_grown
  go_simp
  refine hK.out _ _ ?_ (fun hS1 => ?_)
  · exact ⟨cells_kept hal _ _ hS0.1, cells_kept hal _ _ hS0.2.1, cells_kept hal _ _ hS0.2.2.1, cells_kept hal _ _ hS0.2.2.2.1, cells_kept hal _ _ hS0.2.2.2.2.1, cells_kept hal _ _ hS0.2.2.2.2.2.1, cells_kept hal _ _ hS0.2.2.2.2.2.2⟩
  clear hK
  try simp only [Act.put, List.setIfInBounds_toArray, List.set_cons_zero, List.set_cons_succ]
  refine wpAnyH_ready (rs := [13]) (by kernel_rfl) (by simp) ?_
  refine AllReadyH.cons (o := { dst := none, op := _, type := _, pos := _, after := _, guard := _ }) rfl (fun K hK => ?_) AllReadyH.nil
  have hal2 : Below W.drew.heap.size W.drew (W.drew.alloc (.cells #[.int .i64 x0, .int .i64 x1, .int .i64 x2] 125)) := by go_grown
  go_simp
  refine hK.out _ _ ?_ (fun hS2 => ?_)
  · exact ⟨cells_kept hal2 _ _ hS0.1, cells_kept hal2 _ _ hS0.2.1, cells_kept hal2 _ _ hS0.2.2.1, cells_kept hal2 _ _ hS0.2.2.2.1, cells_kept hal2 _ _ hS0.2.2.2.2.1, cells_kept hal2 _ _ hS0.2.2.2.2.2.1, cells_kept hal2 _ _ hS0.2.2.2.2.2.2⟩
  clear hK
  try simp only [Act.put, List.setIfInBounds_toArray, List.set_cons_zero, List.set_cons_succ]
  refine wpAnyH_done (by kernel_rfl) ?_ _
  have hb : Below W.heap.size W (W.alloc (.cells #[.int .i64 x0, .int .i64 x1, .int .i64 x2] 125)).drew := by go_grown
  have pX : Blk (W.alloc (.cells #[.int .i64 x0, .int .i64 x1, .int .i64 x2] 125)).drew W.heap.size 125 [.int .i64 x0, .int .i64 x1, .int .i64 x2] := blkAt _ _ _ rfl
  replace bw := bel_trans bw hb
  replace pR := pR.below hb
  replace e1 := cells_kept hb _ _ e1
  replace cS := cells_kept hb _ _ cS
  clear hal hal2 hS0 hS1 hS2 f0 q0 q1 q2 hb cP pP pS
  go_wp2_with fail
  generalize (W.alloc (.cells #[.int .i64 x0, .int .i64 x1, .int .i64 x2] 125)).drew = V at *
  generalize W.heap.size = X at *
  have d0 := pX.cell 0
  have d1 := pX.cell 1
  have d2 := pX.cell 2
  simp only [List.getElem?_cons_zero, List.getElem?_cons_succ] at d0 d1 d2
  have hdr : Below V.heap.size V V.drew := by go_grown
  refine wp_region_held_drew (S := (fun w' => w'.cell? ⟨w.heap.size + 1, 0, none⟩ = some (.slice (some ⟨b0, o0, none⟩) 3 c0) ∧ w'.cell? ⟨b0, o0 + k, none⟩ = some (.int .i64 p) ∧ w'.cell? ⟨X, 0, none⟩ = some (.int .i64 x0) ∧ w'.cell? ⟨X, 1, none⟩ = some (.int .i64 x1) ∧ w'.cell? ⟨X, 2, none⟩ = some (.int .i64 x2))) (by kernel_rfl) ⟨cS, e1, d0, d1, d2⟩ (fun hS0 => ?_)
  refine wpAnyH_take (i := 0) (oi := { dst := some 20, op := _, type := _, pos := _, after := _, guard := _ }) (v := .int .i64 (k : Int)) rfl (by kernel_rfl) (by kernel_rfl) (by kernel_rfl) (fun _ _ _ h => h) (Or.inl ⟨by rfl, ?_⟩) (by assumption) ?_
  · (intro w' hSw; (try dsimp only at hSw); go_simp; try rfl)
  simp only [Act.put, List.setIfInBounds_toArray, List.set_cons_zero, List.set_cons_succ]
  refine wpAnyH_take (i := 1) (oi := { dst := some 21, op := _, type := _, pos := _, after := _, guard := _ }) (v := .pointer (some ⟨w.heap.size + 1, 0, none⟩)) rfl (by kernel_rfl) (by kernel_rfl) (by kernel_rfl) (fun _ _ _ h => h) (Or.inl ⟨by rfl, ?_⟩) (by assumption) ?_
  · (intro w' hSw; (try dsimp only at hSw); go_simp; try rfl)
  simp only [Act.put, List.setIfInBounds_toArray, List.set_cons_zero, List.set_cons_succ]
  refine wpAnyH_take (i := 2) (oi := { dst := some 22, op := _, type := _, pos := _, after := _, guard := _ }) (v := .slice (some ⟨b0, o0, none⟩) 3 c0) rfl (by kernel_rfl) (by kernel_rfl) (by kernel_rfl) (fun _ _ _ h => h) (Or.inl ⟨by rfl, ?_⟩) (by assumption) ?_
  · (intro w' hSw; (try dsimp only at hSw); go_simp; try rfl)
  simp only [Act.put, List.setIfInBounds_toArray, List.set_cons_zero, List.set_cons_succ]
  refine wpAnyH_take (i := 3) (oi := { dst := some 23, op := _, type := _, pos := _, after := _, guard := _ }) (v := .int .i64 (k : Int)) rfl (by kernel_rfl) (by kernel_rfl) (by kernel_rfl) (fun _ _ _ h => h) (Or.inl ⟨by rfl, ?_⟩) (by assumption) ?_
  · (intro w' hSw; (try dsimp only at hSw); go_simp; try rfl)
  simp only [Act.put, List.setIfInBounds_toArray, List.set_cons_zero, List.set_cons_succ]
  refine wpAnyH_take (i := 4) (oi := { dst := some 24, op := _, type := _, pos := _, after := _, guard := _ }) (v := .pointer (some ⟨b0, o0 + k, none⟩)) rfl (by kernel_rfl) (by kernel_rfl) (by kernel_rfl) (fun _ _ _ h => h) (Or.inl ⟨by rfl, ?_⟩) (by assumption) ?_
  · (intro w' hSw; (try dsimp only at hSw); go_simp; try rfl)
  simp only [Act.put, List.setIfInBounds_toArray, List.set_cons_zero, List.set_cons_succ]
  refine wpAnyH_take (i := 5) (oi := { dst := some 25, op := _, type := _, pos := _, after := _, guard := _ }) (v := .int .i64 p) rfl (by kernel_rfl) (by kernel_rfl) (by kernel_rfl) (fun _ _ _ h => h) (Or.inl ⟨by rfl, ?_⟩) (by assumption) ?_
  · (intro w' hSw; (try dsimp only at hSw); go_simp; try rfl)
  simp only [Act.put, List.setIfInBounds_toArray, List.set_cons_zero, List.set_cons_succ]
  refine wpAnyH_take (i := 6) (oi := { dst := some 26, op := _, type := _, pos := _, after := _, guard := _ }) (v := .pointer (some ⟨X, 0, none⟩)) rfl (by kernel_rfl) (by kernel_rfl) (by kernel_rfl) (fun _ _ _ h => h) (Or.inl ⟨by rfl, ?_⟩) (by assumption) ?_
  · (intro w' hSw; (try dsimp only at hSw); go_simp; try rfl)
  simp only [Act.put, List.setIfInBounds_toArray, List.set_cons_zero, List.set_cons_succ]
  refine wpAnyH_take (i := 7) (oi := { dst := some 27, op := _, type := _, pos := _, after := _, guard := _ }) (v := .int .i64 x0) rfl (by kernel_rfl) (by kernel_rfl) (by kernel_rfl) (fun _ _ _ h => h) (Or.inl ⟨by rfl, ?_⟩) (by assumption) ?_
  · (intro w' hSw; (try dsimp only at hSw); go_simp; try rfl)
  simp only [Act.put, List.setIfInBounds_toArray, List.set_cons_zero, List.set_cons_succ]
  refine wpAnyH_take (i := 8) (oi := { dst := some 28, op := _, type := _, pos := _, after := _, guard := _ }) (v := .agg #[.int .i64 x0, .int .i64 x1, .int .i64 x2]) rfl (by kernel_rfl) (by kernel_rfl) (by kernel_rfl) (fun _ _ _ h => h) (Or.inl ⟨by rfl, ?_⟩) (by assumption) ?_
  · (intro w' hSw; (try dsimp only at hSw); go_simp; try rfl)
  simp only [Act.put, List.setIfInBounds_toArray, List.set_cons_zero, List.set_cons_succ]
  refine wpAnyH_ready (rs := [9]) (by kernel_rfl) (by simp) ?_
  refine AllReadyH.cons (o := { dst := some 29, op := _, type := _, pos := _, after := _, guard := _ }) rfl (fun K hK => ?_) AllReadyH.nil
  go_simp
  refine (kO _).mono ?_
  rintro e U ⟨rfl, hb8⟩
  go_wp2_with fail
  refine hK.out _ _ ?_ (fun hS1 => ?_)
  · exact ⟨cells_kept hb8 _ _ hS0.1, cells_kept hb8 _ _ hS0.2.1, cells_kept hb8 _ _ hS0.2.2.1, cells_kept hb8 _ _ hS0.2.2.2.1, cells_kept hb8 _ _ hS0.2.2.2.2⟩
  clear hK
  refine wpAnyH_take (i := 10) (oi := { dst := some 30, op := _, type := _, pos := _, after := _, guard := _ }) (v := .agg #[.int .i64 (k : Int), .int .i64 p, .int .i64 x0, .int .i64 ob]) rfl (by kernel_rfl) (by kernel_rfl) (by kernel_rfl) (fun _ _ _ h => h) (Or.inl ⟨by rfl, ?_⟩) (by assumption) ?_
  · (intro w' hSw; (try dsimp only at hSw); go_simp; try rfl)
  simp only [Act.put, List.setIfInBounds_toArray, List.set_cons_zero, List.set_cons_succ]
  replace pR := pR.below (bel_trans hdr hb8)
  replace bw := bel_trans bw (bel_trans hdr hb8)
  refine wpAnyH_ready (rs := [11]) (by kernel_rfl) (by simp) ?_
  refine AllReadyH.cons (o := { dst := none, op := _, type := _, pos := _, after := _, guard := _ }) rfl (fun K hK => ?_) AllReadyH.nil
  refine step_store_blkD rfl 107 _ _ rfl (w.heap.size + 2) [.int .i64 (k : Int), .int .i64 p, .int .i64 x0, .int .i64 ob] rfl rfl pR (by kernel_rfl) rfl rfl ?_
  intro U2 pR2 g2
  have bz := bw.grown g2 bw.size (fun j hj => by cases hj; omega)
  have n0 : (some (w.heap.size + 1) : Option Nat) ≠ some (w.heap.size + 2) := by simp
  have n1 : (some b0 : Option Nat) ≠ some (w.heap.size + 2) := by simp; omega
  have n2 : (some X : Option Nat) ≠ some (w.heap.size + 2) := by simp; omega
  refine hK.out _ _ ⟨cell_grownB g2 hS1.1 n0, cell_grownB g2 hS1.2.1 n1, cell_grownB g2 hS1.2.2.1 n2, cell_grownB g2 hS1.2.2.2.1 n2, cell_grownB g2 hS1.2.2.2.2 n2⟩ (fun hS2 => ?_)
  clear hK
  try simp only [Act.put, List.setIfInBounds_toArray, List.set_cons_zero, List.set_cons_succ]
  refine wpAnyH_done (by kernel_rfl) ?_ _
  clear hS0 hS1 hS2 n0 n1 n2 g2 bw pR hdr hb8 kO d0 d1 d2 e1 pX cS
  go_wp2_with fail
  refine bodyPost_ret (results_blk1 Tryd.results109 _ _ _ _ _ _ rfl pR2.out Tryd.underlying107 rfl (by kernel_rfl)) rfl ?_
  exact ⟨rfl, bz⟩

theorem l05Event_is {w : World} {a9 : Option Addr} {cap : Nat} {cs : Sl × Sl × Sl} {rows : List (List I3)} {s : S4} {m : V4} (hR : RowsAt w a9 cs rows) (h : Vmem w s m) (hp : progOk rows = true) (hs : shapeOk m = true) {k : Nat} (hk : k < 3) (hd : doneM rows m k = false) :
    Calls Tryd.prog 109 #[.agg #[.slice a9 3 cap], s.val, .int .i64 k] w fun e w' => e = .returned (.agg #[.int .i64 (eventM rows m k).1, .int .i64 (eventM rows m k).2.1, .int .i64 (eventM rows m k).2.2.1, .int .i64 (eventM rows m k).2.2.2]) ∧ Below w.heap.size w w' := by
  obtain ⟨p, ep, hlt, hi, hok⟩ := at_ins hp hs hk hd
  obtain ⟨b9, off9, rfl, _, hrow⟩ := hR
  obtain ⟨f0, hI⟩ := hrow k hk
  obtain ⟨b, off, ea, hpn, q0, q1, q2⟩ := ins_at hI hlt
  rw [← hi] at q0 q1 q2
  rw [ea] at f0
  have hm := okI_mid hok
  obtain ⟨⟨j0, _⟩, _⟩ := h
  obtain ⟨l0, _⟩ := shape_parts hs
  obtain ⟨⟨a0, n0, c0⟩, ⟨a1, n1, c1⟩, ⟨a2, n2, c2⟩, ⟨a3, n3, c3⟩⟩ := s
  simp only at j0
  obtain ⟨rfl, b0, o0, rfl⟩ := some_of_ints j0 l0 (by decide)
  have r1 := ints_at9 j0 (t := k) hk
  rw [ep] at r1
  unfold eventM
  rw [ep]
  generalize insM rows m k = x at *
  obtain ⟨x0, x1, x2⟩ := x
  exact l05Event_raw b9 off9 cap b0 o0 c0 a1 n1 c1 a2 n2 c2 a3 n3 c3 k p b off _ _ x0 x1 x2 w hk hpn hm f0 r1 q0 q1 q2
end Go.Proofs.YtgjmangbigibbaaDoor
