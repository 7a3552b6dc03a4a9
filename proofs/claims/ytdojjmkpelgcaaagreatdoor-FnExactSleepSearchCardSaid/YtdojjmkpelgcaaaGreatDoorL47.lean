/-
  Joined: SlwW, EvD, StlS.
-/
import Derived.Test.YtdojjmkpelgcaaaGreatDoorL46

namespace Go.Proofs.YtdojjmkpelgcaaaGreatDoor
set_option maxRecDepth 100000
open Go.RowKit
set_option linter.unusedVariables false
set_option linter.unusedSimpArgs false

theorem fnExactSleepSearch_heap {w w' : World} {b e s n : Nat} {v : Value} {xs : List Value} (h : w.ownsRow b e s v n xs) (hq : ∀ j, v.ownBlock = some j → w'.heap[j]? = w.heap[j]?) : w'.ownsRow b e s v n xs := by
 refine ⟨h.1, ?_⟩
 rcases h.2 with h0 | ⟨g, cap, cur, hv, hB, hg, rest⟩
 ·exact .inl h0
 ·exact .inr ⟨g, cap, cur, hv, hB, by rw [hq g (by rw [hv]; rfl)]; exact hg, rest⟩
theorem fnExactSleepSearch_blk {T : TypeId} {w w' : World} {g t : Nat} {cs : List Value} (k : KeptBut T w w') (h : Blk w g t cs) (hT : t ≠ T) : Blk w' g t cs := k g _ t _ h hT

set_option maxHeartbeats 1200000 in
theorem fnExactSleepSearch_of (a0 : Option Addr) (n0 c0 : Nat) (r0 : List (List I3)) (xs : List I3) (hfit : ∀ x ∈ xs, I3.fits x) (hlf : xs.length ≤ 100000) (rr ss cd : Int) (w : World) (h0 : Codes w a0 n0 c0 r0) (hG : VmShape w)
  (kS : ∀ (a0 : Option Addr) (n0 c0 : Nat) (w : World), Codes w a0 n0 c0 r0 → Calls Tryz.prog 36 #[.agg #[.slice a0 n0 c0]] w fun e w' => SlpGot e w' w.heap.size xs rr ss cd ∧ Below w.heap.size w w')
  (kI : ∀ (a0 : Option Addr) (n0 c0 : Nat) (w : World), Codes w a0 n0 c0 r0 → VmShape w → Calls Tryz.prog 35 #[.agg #[.slice a0 n0 c0]] w fun e w' => SlpGot e w' w.heap.size xs rr ss cd ∧ Below w.heap.size w w') :
  Calls Tryz.prog 8 #[.agg #[.slice a0 n0 c0]] w fun e w' => e = .returned (.bool true) ∧ Below w.heap.size w w' := by
 have kT := fun W h => toProgram_copy a0 n0 c0 r0 W h
 have kO := fun W h => toProgram_own a0 n0 c0 r0 W h
 have hcd : (cd != cd) = false := by simp
 have bw : Below w.heap.size w (w.alloc (.cells #[.slice a0 n0 c0] 75)) := by go_grown
 have p0 : Blk (w.alloc (.cells #[.slice a0 n0 c0] 75)) w.heap.size 75 [.slice a0 n0 c0] := blkAt _ _ _ rfl
 go_enter Tryz.func8, Tryz.ntmps8
 go_wp2_with fail
 generalize (w.alloc (.cells #[.slice a0 n0 c0] 75)) = W0 at *
 go_wp2_with (first | refine wpList_load_blk rfl 75 _ rfl w.heap.size rfl p0 _ Tryz.underlying75 rfl (by kernel_rfl) ?_)
 have hz := sizeLeft_or r0 1048576 (by omega)
 have hbd := size_bounds (rows := r0) (left := 1048576) (by omega)
 have hcb := fun h => sizeLeft_cnt (rows := r0) (left := 1048576) h
 refine (szProgram_less a0 n0 c0 r0 1048576 _ (h0.below bw) (by omega) (by omega)).mono ?_
 rintro e wz ⟨rfl, hb⟩
 generalize sizeLeft 1048576 r0 = zl at hz hbd hcb
 replace bw := bel_trans bw hb
 replace p0 := p0.below hb
 clear hb
 rcases hz with rfl | ⟨yl, xl⟩
 ·clear hbd hcb
  go_wp2
  go_ret
  exact ⟨rfl, bw⟩
 obtain ⟨hr, hr'⟩ := hbd yl (by omega)
 have hcnt := hcb yl
 have hlen : n0 ≤ 1048576 := by rw [← h0.1]; exact hr
 replace kT := fun W h => kT W h hlen (fun t _ => hr' t)
 replace kO := fun W h => kO W h hlen (fun t _ => hr' t)
 have hcl : cntP r0 r0.length ≤ 10000000 := by omega
 have hcj : ∀ j, j ≤ r0.length → cntP r0 j ≤ 10000000 := fun j hj => by have := cntP_mono r0 j; omega
 have HRJ : Hid (∀ j, j < r0.length → (r0.getD j []).length ≤ 1048576) := fun j _ => hr' j
 clear hbd hcb hr hr' hlen hcnt
 have hn0 : decide (zl < 0) = false := by simp; omega
 clear yl xl
 go_wp2_with (first | refine wpList_load_blk rfl 75 _ rfl w.heap.size rfl p0 _ Tryz.underlying75 rfl (by kernel_rfl) ?_)
 refine (kT _ (h0.below bw)).mono ?_
 rintro e wa1 ⟨rfl, hO, hb⟩
 have hA := hO.codes
 clear hO
 generalize wz.heap.size + 3 = ga at hA ⊢
 replace bw := bel_trans bw hb
 replace p0 := p0.below hb
 clear hb
 go_wp2_with fail
 refine (kS _ _ _ _ hA).mono ?_
 rintro e wS0 ⟨⟨vS, rfl, qS⟩, hb⟩
 obtain ⟨vSa, vSc, rfl, _, _⟩ := bugs_sliceR qS hfit
 replace bw := bel_trans bw hb
 replace p0 := p0.below hb
 clear hb hA
 have pN := Blk.new wS0 67 [.slice none 0 0, .int .i64 0, .int .i64 0]
 have ha : Below wS0.heap.size wS0 (wS0.alloc (.cells #[.slice none 0 0, .int .i64 0, .int .i64 0] 67)) := by go_grown
 have hbb := bw.size
 go_wp2_with (refine wpList_store_blk rfl 67 _ _ rfl wS0.heap.size [.slice vSa xs.length vSc, .int .i64 rr, .int .i64 ss] rfl rfl pN (by kernel_rfl) rfl rfl ?_)
 intro wS p9 g9
 have pS := p9.out
 have hb : Below wS0.heap.size wS0 wS := ha.grown g9 ha.size (fun q e => by cases e; exact Nat.le_refl _)
 replace bw := bel_trans bw hb
 replace p0 := p0.below hb
 replace qS := owns_below qS hb
 clear p9 g9 ha pN hb
 generalize wS0.heap.size = YpS at *
 clear kS
 have bv : ∀ j, (Value.slice vSa xs.length vSc).ownBlock = some j → j < wS.heap.size := fun j hj => (qS.lt j hj).2
 go_wp2_with (first | refine wpList_load_blk rfl 75 _ rfl w.heap.size rfl p0 _ Tryz.underlying75 rfl (by kernel_rfl) ?_)
 refine (kO _ (h0.below bw)).mono ?_
 rintro e wx ⟨rfl, hP, hb⟩
 have hBx : w.heap.size ≤ wS.heap.size + 3 := by have := bw.size; omega
 have hSx : wS.heap.size ≤ wx.heap.size := hb.size
 generalize hgx : wS.heap.size + 3 = gx at hP hBx ⊢
 replace bw := bel_trans bw hb
 replace p0 := p0.below hb
 replace qS := owns_below qS hb
 replace pS := pS.below hb
 have hgxX : gx ≤ wx.heap.size := by obtain ⟨vs9, h9, _⟩ := hP; have := (h9.lt gx rfl).2; omega
 clear hb hgx
 generalize wS.heap.size = NS at *
 have ha : Below wx.heap.size wx (wx.alloc (.cells #[.slice (some ⟨gx, 0, none⟩) n0 n0] 25)) := by go_grown
 have pX : Blk (wx.alloc (.cells #[.slice (some ⟨gx, 0, none⟩) n0 n0] 25)) wx.heap.size 25 [.slice (some ⟨gx, 0, none⟩) n0 n0] := blkAt _ _ _ rfl
 replace bw := bel_trans bw ha
 replace p0 := p0.below ha
 replace qS := owns_below qS ha
 replace pS := pS.below ha
 replace hP := hP.below ha
 have hNp : wx.heap.size ≤ (wx.alloc (.cells #[.slice (some ⟨gx, 0, none⟩) n0 n0] 25)).heap.size := ha.size
 clear ha
 have hX := hP.codes9 h0
 go_wp2_with (first | refine wpList_load_blk rfl 25 _ rfl wx.heap.size rfl pX _ Tryz.underlying25 rfl (by kernel_rfl) ?_)
 generalize (wx.alloc (.cells #[.slice (some ⟨gx, 0, none⟩) n0 n0] 25)) = wy at *
 generalize wx.heap.size = GX at *
 refine (kI _ _ _ _ hX (hG.below bw)).mono ?_
 rintro e wI0 ⟨⟨vG, rfl, qG⟩, hb⟩
 obtain ⟨vGa, vGc, rfl, _, _⟩ := bugs_sliceR qG hfit
 have hGB : GX < wy.heap.size := pX.lt
 replace bw := bel_trans bw hb
 replace p0 := p0.below hb
 replace qS := owns_below qS hb
 replace pS := pS.below hb
 replace hP := hP.below hb
 replace pX := pX.below hb
 generalize wy.heap.size = BG at *
 clear hb hX
 have pN := Blk.new wI0 67 [.slice none 0 0, .int .i64 0, .int .i64 0]
 have ha : Below wI0.heap.size wI0 (wI0.alloc (.cells #[.slice none 0 0, .int .i64 0, .int .i64 0] 67)) := by go_grown
 have hbb := bw.size
 go_wp2_with (refine wpList_store_blk rfl 67 _ _ rfl wI0.heap.size [.slice vGa xs.length vGc, .int .i64 rr, .int .i64 ss] rfl rfl pN (by kernel_rfl) rfl rfl ?_)
 intro wI p9 g9
 have pG := p9.out
 have hb : Below wI0.heap.size wI0 wI := ha.grown g9 ha.size (fun q e => by cases e; exact Nat.le_refl _)
 replace bw := bel_trans bw hb
 replace p0 := p0.below hb
 replace qS := owns_below qS hb
 replace pS := pS.below hb
 replace hP := hP.below hb
 replace pX := pX.below hb
 replace qG := owns_below qG hb
 clear p9 g9 ha pN hb
 generalize wI0.heap.size = YpG at *
 go_wp2_with (first | refine wpList_load_blk rfl 67 _ rfl YpG rfl pG _ Tryz.underlying67 rfl (by kernel_rfl) ?_ | refine wpList_load_blk rfl 67 _ rfl YpS rfl pS _ Tryz.underlying67 rfl (by kernel_rfl) ?_)
 refine (eqSleep_same vGa vSa xs.length vGc vSc xs rr ss _ (instrs_rowS qG hfit) (instrs_rowS qS hfit)).mono ?_
 rintro e u2 ⟨rfl, hb⟩
 replace bw := bel_trans bw hb
 replace p0 := p0.below hb
 replace qS := owns_below qS hb
 replace pS := pS.below hb
 replace hP := hP.below hb
 replace pX := pX.below hb
 replace qG := owns_below qG hb
 replace pG := pG.below hb
 clear hb
 have b9 := pX.cell 0
 have b8 := p0.cell 0
 simp only [List.getElem?_cons_zero, List.getElem?_cons_succ] at b9 b8
 go_wp2_with fail
 have hdr : Below u2.heap.size u2 u2.drew := by go_grown
 have bd := bel_trans bw hdr
 have hX := hP.codes9 h0
 refine wp_region_held_drew (S := (fun w' => w'.cell? ⟨GX, 0, none⟩ = some (.slice (some ⟨gx, 0, none⟩) n0 n0) ∧ w'.cell? ⟨w.heap.size, 0, none⟩ = some (.slice a0 n0 c0))) (by kernel_rfl) ⟨b9, b8⟩ (fun hS0 => ?_)
 refine tkm 0 41 (.agg #[.slice (some ⟨gx, 0, none⟩) n0 n0]) ?_
 refine tkm 1 42 (.agg #[.slice a0 n0 c0]) ?_
 refine tkr 2 43 (fun K hK => ?_)
 go_simp
 refine (kT _ (h0.below bd)).mono ?_
 rintro e wk ⟨rfl, hO, hb1⟩
 go_wp2_with fail
 refine hK.out _ _ ?_ (fun hS1 => ?_)
 ·exact ⟨cells_kept hb1 _ _ hS0.1, cells_kept hb1 _ _ hS0.2⟩
 clear hK
 have hK9 := hO.codes
 clear hO
 refine tkr 3 44 (fun K hK => ?_)
 go_simp
 refine (eqProgram_same _ _ _ _ _ r0 _ (hX.below (bel_trans hdr hb1)) hK9).mono ?_
 rintro e u3 ⟨rfl, hb2⟩
 go_wp2_with fail
 refine hK.out _ _ ?_ (fun hS2 => ?_)
 ·exact ⟨cells_kept hb2 _ _ hS1.1, cells_kept hb2 _ _ hS1.2⟩
 clear hK
 refine tkm 4 45 (.bool false) ?_
 refine wpAnyH_done (by kernel_rfl) ?_ _
 have hb9 : Below u2.heap.size u2 u3 := bel_trans hdr (bel_trans hb1 hb2)
 replace bw := bel_trans bw hb9
 replace p0 := p0.below hb9
 replace qS := owns_below qS hb9
 replace pS := pS.below hb9
 replace hP := hP.below hb9
 replace pX := pX.below hb9
 replace qG := owns_below qG hb9
 replace pG := pG.below hb9
 clear hb9 hb1 hb2 hdr bd hS0 hS1 hS2 b9 b8 hX hK9
 have hBW : gx ≤ u3.heap.size := by have := pX.lt; omega
 go_wp2_with (first | refine wpList_load_blk rfl 25 _ rfl GX rfl pX _ Tryz.underlying25 rfl (by kernel_rfl) ?_)
 refine (markProgram_own gx _ 1 r0 _ (by omega) (by omega) hcl hcj HRJ.out hBW hP).mono ?_
 rintro e u6 ⟨rfl, _, kb, hb⟩
 replace bw := bel_transR bw (below_lowR hb hBx)
 replace p0 := fnExactSleepSearch_blk kb p0 (by decide)
 replace pX := fnExactSleepSearch_blk kb pX (by decide)
 replace pS := fnExactSleepSearch_blk kb pS (by decide)
 replace pG := fnExactSleepSearch_blk kb pG (by decide)
 replace qS := kb.owns qS (by decide)
 replace qG := kb.owns qG (by decide)
 clear kb hb hP hBW
 have hc0 : (0 : Int) ≤ cntP r0 r0.length := by omega
 have hk9 : decide (1 + (cntP r0 r0.length : Int) < 0) = false := by simp; omega
 have cg0 : u6.cell? ⟨YpG, 0, none⟩ = some (.slice vGa xs.length vGc) := by simpa using pG.cell 0
 have cg1 : u6.cell? ⟨YpG, 1, none⟩ = some (.int .i64 rr) := by simpa using pG.cell 1
 have cg2 : u6.cell? ⟨YpG, 2, none⟩ = some (.int .i64 ss) := by simpa using pG.cell 2
 have cs0 : u6.cell? ⟨YpS, 0, none⟩ = some (.slice vSa xs.length vSc) := by simpa using pS.cell 0
 have cs1 : u6.cell? ⟨YpS, 1, none⟩ = some (.int .i64 rr) := by simpa using pS.cell 1
 have cs2 : u6.cell? ⟨YpS, 2, none⟩ = some (.int .i64 ss) := by simpa using pS.cell 2
 go_wp2_with (first | refine wpList_load_blk rfl 67 _ rfl YpG rfl pG _ Tryz.underlying67 rfl (by kernel_rfl) ?_ | refine wpList_load_blk rfl 67 _ rfl YpS rfl pS _ Tryz.underlying67 rfl (by kernel_rfl) ?_)
 refine (eqSleep_same vGa vSa xs.length vGc vSc xs rr ss _ (instrs_rowS qG hfit) (instrs_rowS qS hfit)).mono ?_
 rintro e u9 ⟨rfl, hb⟩
 replace bw := bel_trans bw hb
 replace p0 := p0.below hb
 replace qS := owns_below qS hb
 replace pS := pS.below hb
 replace pX := pX.below hb
 replace qG := owns_below qG hb
 replace pG := pG.below hb
 clear hb
 clear hk9 cg0 cg1 cg2 cs0 cs1 cs2
 go_wp2_with (first | refine wpList_load_blk rfl 67 _ rfl YpG rfl pG _ Tryz.underlying67 rfl (by kernel_rfl) ?_)
 refine (markSleep_any BG _ 1 xs rr ss _ (by omega) (by omega) (by omega) qG).mono ?_
 rintro e v2 ⟨rfl, qG2, g2⟩
 replace p0 := p0.kept g2 (own_ne_blk qG p0 (by decide))
 replace pX := pX.kept g2 (own_ne_blk qG pX (by decide))
 replace pS := pS.kept g2 (own_ne_blk qG pS (by decide))
 replace pG := pG.kept g2 (own_ne_blk qG pG (by decide))
 replace qS := fnExactSleepSearch_heap qS fun j hj => g2.block j (qS.lt j hj).2 (fun e => by have h1 := (qG.lt j e.symm).1; have := bv _ hj; omega)
 replace bw := bw.grown g2 bw.size (fun k e => by have h1 := (qG.lt k e).1; omega)
 clear g2 qG
 have qG := qG2
 clear qG2
 have hh2 : decide (1 + (xs.length : Int) * 3 < 0) = false := by simp; omega
 have hh3 : ((1 + (xs.length : Int) * 3) != (1 + (xs.length : Int) * 3)) = false := by simp
 go_wp2_with (first | refine wpList_load_blk rfl 67 _ rfl YpG rfl pG _ Tryz.underlying67 rfl (by kernel_rfl) ?_)
 refine (heldSleep_any BG _ 1 xs rr ss _ (by omega) (by omega) (by omega) qG).mono ?_
 rintro e h1b ⟨rfl, hb⟩
 replace bw := bel_trans bw hb
 replace p0 := p0.below hb
 replace qS := owns_below qS hb
 replace pS := pS.below hb
 replace pX := pX.below hb
 replace qG := owns_below qG hb
 replace pG := pG.below hb
 clear hb
 go_wp2_with (first | refine wpList_load_blk rfl 75 _ rfl w.heap.size rfl p0 _ Tryz.underlying75 rfl (by kernel_rfl) ?_)
 refine (kT _ (h0.below bw)).mono ?_
 rintro e wa2 ⟨rfl, hO, hb⟩
 have hA := hO.codes
 clear hO
 generalize h1b.heap.size + 3 = ga at hA ⊢
 replace bw := bel_trans bw hb
 replace p0 := p0.below hb
 replace qS := owns_below qS hb
 replace pS := pS.below hb
 replace pX := pX.below hb
 replace qG := owns_below qG hb
 replace pG := pG.below hb
 clear hb
 go_wp2_with fail
 refine (kI _ _ _ _ hA (hG.below bw)).mono ?_
 rintro e xc0 ⟨⟨vH, rfl, qH⟩, hb⟩
 obtain ⟨vHa, vHc, rfl, _, _⟩ := bugs_sliceR qH hfit
 replace bw := bel_trans bw hb
 replace p0 := p0.below hb
 replace qS := owns_below qS hb
 replace pS := pS.below hb
 replace pX := pX.below hb
 replace qG := owns_below qG hb
 replace pG := pG.below hb
 clear hb hA
 have pN := Blk.new xc0 67 [.slice none 0 0, .int .i64 0, .int .i64 0]
 have ha : Below xc0.heap.size xc0 (xc0.alloc (.cells #[.slice none 0 0, .int .i64 0, .int .i64 0] 67)) := by go_grown
 have hbb := bw.size
 go_wp2_with (refine wpList_store_blk rfl 67 _ _ rfl xc0.heap.size [.slice vHa xs.length vHc, .int .i64 rr, .int .i64 ss] rfl rfl pN (by kernel_rfl) rfl rfl ?_)
 intro xc p9 g9
 have pH := p9.out
 have hb : Below xc0.heap.size xc0 xc := ha.grown g9 ha.size (fun q e => by cases e; exact Nat.le_refl _)
 replace bw := bel_trans bw hb
 replace p0 := p0.below hb
 replace qS := owns_below qS hb
 replace pS := pS.below hb
 replace pX := pX.below hb
 replace qG := owns_below qG hb
 replace pG := pG.below hb
 replace qH := owns_below qH hb
 clear p9 g9 ha pN hb
 generalize xc0.heap.size = YpH at *
 clear kI
 go_wp2_with (first | refine wpList_load_blk rfl 67 _ rfl YpH rfl pH _ Tryz.underlying67 rfl (by kernel_rfl) ?_ | refine wpList_load_blk rfl 67 _ rfl YpS rfl pS _ Tryz.underlying67 rfl (by kernel_rfl) ?_)
 refine (eqSleep_same vHa vSa xs.length vHc vSc xs rr ss _ (instrs_rowS qH hfit) (instrs_rowS qS hfit)).mono ?_
 rintro e y9 ⟨rfl, hb⟩
 replace bw := bel_trans bw hb
 replace p0 := p0.below hb
 replace qS := owns_below qS hb
 replace pS := pS.below hb
 replace pX := pX.below hb
 replace qG := owns_below qG hb
 replace pG := pG.below hb
 replace qH := owns_below qH hb
 replace pH := pH.below hb
 clear hb
 clear qH pH
 go_wp2_with (first | refine wpList_load_blk rfl 67 _ rfl YpG rfl pG _ Tryz.underlying67 rfl (by kernel_rfl) ?_)
 refine (heldSleep_any BG _ 1 xs rr ss _ (by omega) (by omega) (by omega) qG).mono ?_
 rintro e h2b ⟨rfl, hb⟩
 replace bw := bel_trans bw hb
 replace p0 := p0.below hb
 replace qS := owns_below qS hb
 replace pS := pS.below hb
 replace pX := pX.below hb
 replace qG := owns_below qG hb
 replace pG := pG.below hb
 clear hb
 go_wp2
 go_ret
 exact ⟨rfl, bw⟩


set_option maxHeartbeats 1600000 in
theorem l05Event_raw (b9 off9 cap b0 o0 c0 : Nat) (a1 : Option Addr) (n1 c1 : Nat) (a2 : Option Addr) (n2 c2 : Nat) (a3 : Option Addr) (n3 c3 : Nat) (k p b off n c : Nat) (x0 x1 x2 : Int) (w : World) (hk : k < 3) (hp : p < n) (hx : -1000 ≤ x1 ∧ x1 ≤ 1000)
  (f0 : w.cell? ⟨b9, off9 + k, none⟩ = some (.slice (some ⟨b, off, none⟩) n c)) (e1 : w.cell? ⟨b0, o0 + k, none⟩ = some (.int .i64 p)) (q0 : w.cell? ⟨b, off + p * 3, none⟩ = some (.int .i64 x0)) (q1 : w.cell? ⟨b, off + p * 3 + 1, none⟩ = some (.int .i64 x1)) (q2 : w.cell? ⟨b, off + p * 3 + 2, none⟩ = some (.int .i64 x2)) :
  Calls Tryz.prog 110 #[.agg #[.slice (some ⟨b9, off9, none⟩) 3 cap], .agg #[.slice (some ⟨b0, o0, none⟩) 3 c0, .slice a1 n1 c1, .slice a2 n2 c2, .slice a3 n3 c3], .int .i64 k] w fun e w' => e = .returned (.agg #[.int .i64 k, .int .i64 p, .int .i64 x0, .int .i64 (objM (x0, x1, x2))]) ∧ Below w.heap.size w w' := by
 have hk3 : (k : Int) < 3 := by omega
 have hpn : (p : Int) < (n : Int) := by omega
 have kO := l05Obj_is x0 x1 x2 hx
 generalize objM (x0, x1, x2) = ob at *
 have hl0 : b0 < w.heap.size := World.block_lt_of_cell? _ _ e1
 have bw : Below w.heap.size w (((w.alloc (.cells #[.slice (some ⟨b9, off9, none⟩) 3 cap] 25)).alloc (.cells #[.slice (some ⟨b0, o0, none⟩) 3 c0, .slice a1 n1 c1, .slice a2 n2 c2, .slice a3 n3 c3] 33)).alloc (.cells #[.int .i64 0, .int .i64 0, .int .i64 0, .int .i64 0] 38)) := by go_grown
 have pP : Blk (((w.alloc (.cells #[.slice (some ⟨b9, off9, none⟩) 3 cap] 25)).alloc (.cells #[.slice (some ⟨b0, o0, none⟩) 3 c0, .slice a1 n1 c1, .slice a2 n2 c2, .slice a3 n3 c3] 33)).alloc (.cells #[.int .i64 0, .int .i64 0, .int .i64 0, .int .i64 0] 38)) w.heap.size 25 [.slice (some ⟨b9, off9, none⟩) 3 cap] := blkOld _ (blkOld _ (blkAt _ _ _ rfl))
 have pS : Blk (((w.alloc (.cells #[.slice (some ⟨b9, off9, none⟩) 3 cap] 25)).alloc (.cells #[.slice (some ⟨b0, o0, none⟩) 3 c0, .slice a1 n1 c1, .slice a2 n2 c2, .slice a3 n3 c3] 33)).alloc (.cells #[.int .i64 0, .int .i64 0, .int .i64 0, .int .i64 0] 38)) (w.heap.size + 1) 33 [.slice (some ⟨b0, o0, none⟩) 3 c0, .slice a1 n1 c1, .slice a2 n2 c2, .slice a3 n3 c3] := blkOld _ (blkAt _ _ _ (by simp))
 have pR : Blk (((w.alloc (.cells #[.slice (some ⟨b9, off9, none⟩) 3 cap] 25)).alloc (.cells #[.slice (some ⟨b0, o0, none⟩) 3 c0, .slice a1 n1 c1, .slice a2 n2 c2, .slice a3 n3 c3] 33)).alloc (.cells #[.int .i64 0, .int .i64 0, .int .i64 0, .int .i64 0] 38)) (w.heap.size + 2) 38 [.int .i64 0, .int .i64 0, .int .i64 0, .int .i64 0] := blkAt _ _ _ (by simp)
 replace f0 := cells_kept bw _ _ f0
 replace e1 := cells_kept bw _ _ e1
 replace q0 := cells_kept bw _ _ q0
 replace q1 := cells_kept bw _ _ q1
 replace q2 := cells_kept bw _ _ q2
 have cP := pP.cell 0
 have cS := pS.cell 0
 simp only [List.getElem?_cons_zero] at cP cS
 go_enter Tryz.func110, Tryz.ntmps110
 go_wp2_with fail
 have hX9 : w.heap.size + 2 < (((w.alloc (.cells #[.slice (some ⟨b9, off9, none⟩) 3 cap] 25)).alloc (.cells #[.slice (some ⟨b0, o0, none⟩) 3 c0, .slice a1 n1 c1, .slice a2 n2 c2, .slice a3 n3 c3] 33)).alloc (.cells #[.int .i64 0, .int .i64 0, .int .i64 0, .int .i64 0] 38)).heap.size := pR.lt
 generalize (((w.alloc (.cells #[.slice (some ⟨b9, off9, none⟩) 3 cap] 25)).alloc (.cells #[.slice (some ⟨b0, o0, none⟩) 3 c0, .slice a1 n1 c1, .slice a2 n2 c2, .slice a3 n3 c3] 33)).alloc (.cells #[.int .i64 0, .int .i64 0, .int .i64 0, .int .i64 0] 38)) = W at *
 refine wp_region_held_drew (S := (fun w' => w'.cell? ⟨w.heap.size, 0, none⟩ = some (.slice (some ⟨b9, off9, none⟩) 3 cap) ∧ w'.cell? ⟨b9, off9 + k, none⟩ = some (.slice (some ⟨b, off, none⟩) n c) ∧ w'.cell? ⟨w.heap.size + 1, 0, none⟩ = some (.slice (some ⟨b0, o0, none⟩) 3 c0) ∧ w'.cell? ⟨b0, o0 + k, none⟩ = some (.int .i64 p) ∧ w'.cell? ⟨b, off + p * 3, none⟩ = some (.int .i64 x0) ∧ w'.cell? ⟨b, off + p * 3 + 1, none⟩ = some (.int .i64 x1) ∧ w'.cell? ⟨b, off + p * 3 + 2, none⟩ = some (.int .i64 x2))) (by kernel_rfl) ⟨cP, f0, cS, e1, q0, q1, q2⟩ (fun hS0 => ?_)
 refine tkm 0 8 (.pointer (some ⟨w.heap.size, 0, none⟩)) ?_
 refine tkm 1 9 (.slice (some ⟨b9, off9, none⟩) 3 cap) ?_
 refine tkm 2 10 (.int .i64 (k : Int)) ?_
 refine tkm 3 11 (.pointer (some ⟨b9, off9 + k, none⟩)) ?_
 refine tkm 4 12 (.slice (some ⟨b, off, none⟩) n c) ?_
 refine tkm 5 13 (.pointer (some ⟨w.heap.size + 1, 0, none⟩)) ?_
 refine tkm 6 14 (.slice (some ⟨b0, o0, none⟩) 3 c0) ?_
 refine tkm 7 15 (.int .i64 (k : Int)) ?_
 refine tkm 8 16 (.pointer (some ⟨b0, o0 + k, none⟩)) ?_
 refine tkm 9 17 (.int .i64 p) ?_
 refine tkm 10 18 (.pointer (some ⟨b, off + p * 3, none⟩)) ?_
 refine tkm 11 19 (.agg #[.int .i64 x0, .int .i64 x1, .int .i64 x2]) ?_
 refine tkr 12 7 (fun K hK => ?_)
 have hal : Below W.drew.heap.size W.drew (W.drew.alloc (.cells #[.int .i64 0, .int .i64 0, .int .i64 0] 158)) := by go_grown
 go_simp
 refine hK.out _ _ ?_ (fun hS1 => ?_)
 ·exact ⟨cells_kept hal _ _ hS0.1, cells_kept hal _ _ hS0.2.1, cells_kept hal _ _ hS0.2.2.1, cells_kept hal _ _ hS0.2.2.2.1, cells_kept hal _ _ hS0.2.2.2.2.1, cells_kept hal _ _ hS0.2.2.2.2.2.1, cells_kept hal _ _ hS0.2.2.2.2.2.2⟩
 clear hK
 try simp only [Act.put, tka, tkb, tkc]
 refine tkz 13 (fun K hK => ?_)
 have hal2 : Below W.drew.heap.size W.drew (W.drew.alloc (.cells #[.int .i64 x0, .int .i64 x1, .int .i64 x2] 158)) := by go_grown
 go_simp
 refine hK.out _ _ ?_ (fun hS2 => ?_)
 ·exact ⟨cells_kept hal2 _ _ hS0.1, cells_kept hal2 _ _ hS0.2.1, cells_kept hal2 _ _ hS0.2.2.1, cells_kept hal2 _ _ hS0.2.2.2.1, cells_kept hal2 _ _ hS0.2.2.2.2.1, cells_kept hal2 _ _ hS0.2.2.2.2.2.1, cells_kept hal2 _ _ hS0.2.2.2.2.2.2⟩
 clear hK
 try simp only [Act.put, tka, tkb, tkc]
 refine wpAnyH_done (by kernel_rfl) ?_ _
 have hb : Below W.heap.size W (W.alloc (.cells #[.int .i64 x0, .int .i64 x1, .int .i64 x2] 158)).drew := by go_grown
 have pX : Blk (W.alloc (.cells #[.int .i64 x0, .int .i64 x1, .int .i64 x2] 158)).drew W.heap.size 158 [.int .i64 x0, .int .i64 x1, .int .i64 x2] := blkAt _ _ _ rfl
 replace bw := bel_trans bw hb
 replace pR := pR.below hb
 replace e1 := cells_kept hb _ _ e1
 replace cS := cells_kept hb _ _ cS
 clear hal hal2 hS0 hS1 hS2 f0 q0 q1 q2 hb cP pP pS
 go_wp2_with fail
 generalize (W.alloc (.cells #[.int .i64 x0, .int .i64 x1, .int .i64 x2] 158)).drew = V at *
 generalize W.heap.size = X at *
 have d0 := pX.cell 0
 have d1 := pX.cell 1
 have d2 := pX.cell 2
 simp only [List.getElem?_cons_zero, List.getElem?_cons_succ] at d0 d1 d2
 have hdr : Below V.heap.size V V.drew := by go_grown
 refine wp_region_held_drew (S := (fun w' => w'.cell? ⟨w.heap.size + 1, 0, none⟩ = some (.slice (some ⟨b0, o0, none⟩) 3 c0) ∧ w'.cell? ⟨b0, o0 + k, none⟩ = some (.int .i64 p) ∧ w'.cell? ⟨X, 0, none⟩ = some (.int .i64 x0) ∧ w'.cell? ⟨X, 1, none⟩ = some (.int .i64 x1) ∧ w'.cell? ⟨X, 2, none⟩ = some (.int .i64 x2))) (by kernel_rfl) ⟨cS, e1, d0, d1, d2⟩ (fun hS0 => ?_)
 refine tkm 0 20 (.int .i64 (k : Int)) ?_
 refine tkm 1 21 (.pointer (some ⟨w.heap.size + 1, 0, none⟩)) ?_
 refine tkm 2 22 (.slice (some ⟨b0, o0, none⟩) 3 c0) ?_
 refine tkm 3 23 (.int .i64 (k : Int)) ?_
 refine tkm 4 24 (.pointer (some ⟨b0, o0 + k, none⟩)) ?_
 refine tkm 5 25 (.int .i64 p) ?_
 refine tkm 6 26 (.pointer (some ⟨X, 0, none⟩)) ?_
 refine tkm 7 27 (.int .i64 x0) ?_
 refine tkm 8 28 (.agg #[.int .i64 x0, .int .i64 x1, .int .i64 x2]) ?_
 refine tkr 9 29 (fun K hK => ?_)
 go_simp
 refine (kO _).mono ?_
 rintro e U ⟨rfl, hb8⟩
 go_wp2_with fail
 refine hK.out _ _ ?_ (fun hS1 => ?_)
 ·exact ⟨cells_kept hb8 _ _ hS0.1, cells_kept hb8 _ _ hS0.2.1, cells_kept hb8 _ _ hS0.2.2.1, cells_kept hb8 _ _ hS0.2.2.2.1, cells_kept hb8 _ _ hS0.2.2.2.2⟩
 clear hK
 refine tkm 10 30 (.agg #[.int .i64 (k : Int), .int .i64 p, .int .i64 x0, .int .i64 ob]) ?_
 replace pR := pR.below (bel_trans hdr hb8)
 replace bw := bel_trans bw (bel_trans hdr hb8)
 refine tkz 11 (fun K hK => ?_)
 refine step_store_blkD rfl 38 _ _ rfl (w.heap.size + 2) [.int .i64 (k : Int), .int .i64 p, .int .i64 x0, .int .i64 ob] rfl rfl pR (by kernel_rfl) rfl rfl ?_
 intro U2 pR2 g2
 have bz := bw.grown g2 bw.size (fun j hj => by cases hj; omega)
 have n0 : (some (w.heap.size + 1) : Option Nat) ≠ some (w.heap.size + 2) := by simp
 have n1 : (some b0 : Option Nat) ≠ some (w.heap.size + 2) := by simp; omega
 have n2 : (some X : Option Nat) ≠ some (w.heap.size + 2) := by simp; omega
 refine hK.out _ _ ⟨cell_grownB g2 hS1.1 n0, cell_grownB g2 hS1.2.1 n1, cell_grownB g2 hS1.2.2.1 n2, cell_grownB g2 hS1.2.2.2.1 n2, cell_grownB g2 hS1.2.2.2.2 n2⟩ (fun hS2 => ?_)
 clear hK
 try simp only [Act.put, tka, tkb, tkc]
 refine wpAnyH_done (by kernel_rfl) ?_ _
 clear hS0 hS1 hS2 n0 n1 n2 g2 bw pR hdr hb8 kO d0 d1 d2 e1 pX cS
 go_wp2_with fail
 refine bodyPost_ret (results_blk1 Tryz.results110 _ _ _ _ _ _ rfl pR2.out Tryz.underlying38 rfl (by kernel_rfl)) rfl ?_
 exact ⟨rfl, bz⟩

theorem l05Event_is {w : World} {a9 : Option Addr} {cap : Nat} {cs : Sl × Sl × Sl} {rows : List (List I3)} {s : S4} {m : V4} (hR : RowsAt w a9 cs rows) (h : Vmem w s m) (hp : progOk rows = true) (hs : shapeOk m = true) {k : Nat} (hk : k < 3) (hd : doneM rows m k = false) :
  Calls Tryz.prog 110 #[.agg #[.slice a9 3 cap], s.val, .int .i64 k] w fun e w' => e = .returned (.agg #[.int .i64 (eventM rows m k).1, .int .i64 (eventM rows m k).2.1, .int .i64 (eventM rows m k).2.2.1, .int .i64 (eventM rows m k).2.2.2]) ∧ Below w.heap.size w w' := by
 obtain ⟨p, ep, hlt, hi, hok⟩ := at_ins hp hs hk hd
 obtain ⟨b9, off9, rfl, _, hrow⟩ := hR
 obtain ⟨f0, hI⟩ := hrow k hk
 obtain ⟨b, off, ea, hpn, q0, q1, q2⟩ := ins_at hI hlt
 rw [← hi] at q0 q1 q2
 rw [ea] at f0
 have hm := okI_mid hok
 obtain ⟨⟨j0, _⟩, _⟩ := h
 obtain ⟨l0, _⟩ := shape_parts hs
 obtain ⟨⟨a0, n0, c0⟩, ⟨a1, n1, c1⟩, ⟨a2, n2, c2⟩, ⟨a3, n3, c3⟩⟩ := s
 simp only at j0
 obtain ⟨rfl, b0, o0, rfl⟩ := some_of_ints j0 l0 (by decide)
 have r1 := ints_at9 j0 (t := k) hk
 rw [ep] at r1
 unfold eventM
 rw [ep]
 generalize insM rows m k = x at *
 obtain ⟨x0, x1, x2⟩ := x
 exact l05Event_raw b9 off9 cap b0 o0 c0 a1 n1 c1 a2 n2 c2 a3 n3 c3 k p b off _ _ x0 x1 x2 w hk hpn hm f0 r1 q0 q1 q2


def RowGotN (e : Ending) (w : World) (B : Nat) (ks : List Int) : Prop := ∃ v, e = .returned v ∧ v ≠ .slice none 0 0 ∧ w.ownsRow B 3 1 v ks.length (ks.map (Value.int .i64))
def stlJ (rows : List (List I3)) (m : V4) (Z : List Int) (k i : Nat) : List Int := (Z.take i).filter fun j => !depM (eventM rows m k) (eventM rows m j.toNat)
theorem stlJ_all {rows : List (List I3)} {m : V4} {Z : List Int} {k i : Nat} (h : Z.length ≤ i) : stlJ rows m Z k i = stillM rows m Z (k : Int) := by
 unfold stlJ stillM
 rw [List.take_of_length_le h, Int.toNat_natCast]
theorem stlJ_len (rows : List (List I3)) (m : V4) (Z : List Int) (k i : Nat) : (stlJ rows m Z k i).length ≤ Z.length := Nat.le_trans (List.length_filter_le _ _) (List.length_take_le' _ _)
theorem stlJ_succ {rows : List (List I3)} {m : V4} {Z : List Int} {k i q : Nat} (h : i < Z.length) (hq : Z.getD i 0 = (q : Int)) : stlJ rows m Z k (i + 1) = if depM (eventM rows m k) (eventM rows m q) then stlJ rows m Z k i else stlJ rows m Z k i ++ [(q : Int)] := by
 unfold stlJ
 rw [take_snoc7 h, List.filter_append, hq]
 cases hd : depM (eventM rows m k) (eventM rows m q) <;> simp [hd]

set_option maxHeartbeats 2000000 in
theorem l07Still_is {w : World} {a9 : Option Addr} {cap : Nat} {cs : Sl × Sl × Sl} {rows : List (List I3)} {s : S4} {m : V4} (hR : RowsAt w a9 cs rows) (h : Vmem w s m) (hp : progOk rows = true) (hs : shapeOk m = true) {k : Nat} (hk : k < 3) (hd : doneM rows m k = false) (la : Option Addr) (n c : Nat) (Z : List Int) (hL : Ints .i64 w la n c Z) (hn : n ≤ 4096) (hZ : SlpOk rows m Z) :
  Calls Tryz.prog 163 #[.agg #[.slice a9 3 cap], s.val, .slice la n c, .int .i64 k] w fun e w' => RowGotN e w' w.heap.size (stillM rows m Z k) ∧ Below w.heap.size w w' := by
 obtain ⟨i1, hi1, hy0, hy1, hy2⟩ := info_parts info_int
 have hll := hL.1
 obtain ⟨⟨t0a, t0n, t0c⟩, ⟨t1a, t1n, t1c⟩, ⟨t2a, t2n, t2c⟩, ⟨t3a, t3n, t3c⟩⟩ := s
 have ut : S4.val ((t0a, t0n, t0c), (t1a, t1n, t1c), (t2a, t2n, t2c), (t3a, t3n, t3c)) = .agg #[.slice t0a t0n t0c, .slice t1a t1n t1c, .slice t2a t2n t2c, .slice t3a t3n t3c] := rfl
 have kE := fun (W : World) (b : Below w.heap.size w W) (q : Nat) (hq : q < 3) (hdq : doneM rows m q = false) => l05Event_is (cap := cap) (hR.below b) (h.below b) hp hs hq hdq
 rw [ut] at kE ⊢
 clear ut
 have kEx := fun W b => kE W b k hk hd
 have HS0 : Hid (stlJ rows m Z k 0 = []) := by simp [Hid, stlJ]
 have HSA : Hid (stlJ rows m Z k n = stillM rows m Z (k : Int)) := stlJ_all (by omega)
 have HSS : Hid (∀ i q : Nat, i < n → Z.getD i 0 = (q : Int) → stlJ rows m Z k (i + 1) = if depM (eventM rows m k) (eventM rows m q) then stlJ rows m Z k i else stlJ rows m Z k i ++ [(q : Int)]) := fun i q h1 h2 => stlJ_succ (by omega) h2
 have hJl := fun i => stlJ_len rows m Z k i
 have hZq : ∀ i, i < n → ∃ q : Nat, Z.getD i 0 = (q : Int) ∧ q < 3 ∧ doneM rows m q = false := fun i hi => hZ _ (by simp [List.getD, show i < Z.length by omega])
 generalize hy : eventM rows m k = y at *
 obtain ⟨y0, y1, y2, y3⟩ := y
 simp only at kEx
 clear hy hd hp hZ
 have bw : Below w.heap.size w (((w.alloc (.cells #[.slice a9 3 cap] 25)).alloc (.cells #[.slice t0a t0n t0c, .slice t1a t1n t1c, .slice t2a t2n t2c, .slice t3a t3n t3c] 33)).alloc (.cells #[] 3)) := by go_grown
 have pP : Blk (((w.alloc (.cells #[.slice a9 3 cap] 25)).alloc (.cells #[.slice t0a t0n t0c, .slice t1a t1n t1c, .slice t2a t2n t2c, .slice t3a t3n t3c] 33)).alloc (.cells #[] 3)) w.heap.size 25 [.slice a9 3 cap] := blkOld _ (blkOld _ (blkAt _ _ _ rfl))
 have pS : Blk (((w.alloc (.cells #[.slice a9 3 cap] 25)).alloc (.cells #[.slice t0a t0n t0c, .slice t1a t1n t1c, .slice t2a t2n t2c, .slice t3a t3n t3c] 33)).alloc (.cells #[] 3)) (w.heap.size + 1) 33 [.slice t0a t0n t0c, .slice t1a t1n t1c, .slice t2a t2n t2c, .slice t3a t3n t3c] := blkOld _ (blkAt _ _ _ (by simp))
 have q0 : (((w.alloc (.cells #[.slice a9 3 cap] 25)).alloc (.cells #[.slice t0a t0n t0c, .slice t1a t1n t1c, .slice t2a t2n t2c, .slice t3a t3n t3c] 33)).alloc (.cells #[] 3)).ownsRow w.heap.size 3 1 (.slice (some ⟨w.heap.size + 1 + 1, 0, none⟩) 0 0) 0 [] := by
  have h9 := own_emptyB ((w.alloc (.cells #[.slice a9 3 cap] 25)).alloc (.cells #[.slice t0a t0n t0c, .slice t1a t1n t1c, .slice t2a t2n t2c, .slice t3a t3n t3c] 33)) 3 1 w.heap.size (by simp; omega)
  simpa using h9
 obtain ⟨g0, hg0⟩ : ∃ g0, g0 = w.heap.size + 1 + 1 := ⟨_, rfl⟩
 go_enter Tryz.func163, Tryz.ntmps163
 go_wp2_with (first | refine wpList_load_blk rfl 25 _ rfl w.heap.size rfl pP _ Tryz.underlying25 rfl (by kernel_rfl) ?_ | refine wpList_load_blk rfl 33 _ rfl (w.heap.size + 1) rfl pS _ Tryz.underlying33 rfl (by kernel_rfl) ?_)
 rw [← hg0] at q0 ⊢
 clear hg0
 generalize (((w.alloc (.cells #[.slice a9 3 cap] 25)).alloc (.cells #[.slice t0a t0n t0c, .slice t1a t1n t1c, .slice t2a t2n t2c, .slice t3a t3n t3c] 33)).alloc (.cells #[] 3)) = U at *
 refine (kEx U bw).mono ?_
 rintro e w1 ⟨rfl, hb⟩
 replace bw := bel_trans bw hb
 replace pP := pP.below hb
 replace pS := pS.below hb
 replace q0 := owns_below q0 hb
 clear hb kEx
 have pN := Blk.new w1 38 [.int .i64 0, .int .i64 0, .int .i64 0, .int .i64 0]
 have ha : Below w1.heap.size w1 (w1.alloc (.cells #[.int .i64 0, .int .i64 0, .int .i64 0, .int .i64 0] 38)) := by go_grown
 go_wp2_with (refine wpList_store_blk rfl 38 _ _ rfl w1.heap.size [.int .i64 y0, .int .i64 y1, .int .i64 y2, .int .i64 y3] rfl rfl pN (by kernel_rfl) rfl rfl ?_)
 intro w2 pE2 g2
 have pE := pE2.out
 have hb2 : Below w1.heap.size w1 w2 := ha.grown g2 ha.size (fun q e => by cases e; exact Nat.le_refl _)
 replace bw := bel_trans bw hb2
 replace pP := pP.below hb2
 replace pS := pS.below hb2
 replace q0 := owns_below q0 hb2
 generalize w1.heap.size = E at *
 clear pE2 g2 ha pN hb2
 go_wp2_with fail
 go_loopw [9, 11] (fun s9 s11 wr => ∃ i : Nat, s11 = .int .i64 i ∧ i ≤ n ∧ Hid (s9 ≠ .slice none 0 0) ∧ Hid (wr.ownsRow w.heap.size 3 1 s9 (stlJ rows m Z k i).length ((stlJ rows m Z k i).map (Value.int .i64))) ∧ Blk wr w.heap.size 25 [.slice a9 3 cap] ∧ Blk wr (w.heap.size + 1) 33 [.slice t0a t0n t0c, .slice t1a t1n t1c, .slice t2a t2n t2c, .slice t3a t3n t3c] ∧ Blk wr E 38 [.int .i64 y0, .int .i64 y1, .int .i64 y2, .int .i64 y3] ∧ Below w.heap.size w wr) (fun _ s11 _ => n - (intOf s11).toNat)
 case atStart => exact ⟨0, rfl, Nat.zero_le _, (show Hid (_ ≠ _) from fun e => by cases e), by rw [HS0.out]; exact q0, pP, pS, pE, bw⟩
 case round =>
  clear q0 pP pS pE bw HS0
  obtain ⟨i, rfl, hin, HNN, HQ, pP, pS, pE, bw⟩ := hrel
  obtain ⟨va, vn, vc, rfl⟩ := own_slice6 HQ.out
  by_cases hlt : i < n
  ·obtain ⟨q, hq, hq3, hqd⟩ := hZq i hlt
   obtain ⟨lb, lo, rfl, hc, hlb⟩ := ints_cellS (hL.below bw) (show i < n from hlt)
   rw [hq] at hc
   have HX : Hid (stlJ rows m Z k (i + 1) = if depM (y0, y1, y2, y3) (eventM rows m q) then stlJ rows m Z k i else stlJ rows m Z k i ++ [(q : Int)]) := HSS.out i q hlt hq
   have hjl := hJl i
   have kEx := fun W b => kE W b q hq3 hqd
   generalize eventM rows m q = x at *
   obtain ⟨x0, x1, x2, x3⟩ := x
   simp only at kEx
   have kD := fun (W : World) => specDepends_is (y0, y1, y2, y3) (x0, x1, x2, x3) W
   unfold I4.val at kD
   simp only at kD
   have hlt3 : (i : Int) < (n : Int) := by omega
   have hi0 : (0 : Int) ≤ (i : Int) := by omega
   have hdr : Below wr.heap.size wr wr.drew := by go_grown
   go_wp2_with fail
   refine wp_region_held_drew (S := (fun w' => w'.rangeAt E 0 [.int .i64 y0, .int .i64 y1, .int .i64 y2, .int .i64 y3] ∧ w'.rangeAt w.heap.size 0 [.slice a9 3 cap] ∧ w'.rangeAt (w.heap.size + 1) 0 [.slice t0a t0n t0c, .slice t1a t1n t1c, .slice t2a t2n t2c, .slice t3a t3n t3c] ∧ w'.cell? ⟨lb, lo + i, none⟩ = some (.int .i64 (q : Int)))) (by kernel_rfl) ⟨blk_range pE, blk_range pP, blk_range pS, hc⟩ (fun hS0 => ?_)
   refine wpAnyH_take (i := 0) (oi := { dst := some 23, op := _, type := _, pos := _, after := _, guard := _ }) (v := .agg ([.int .i64 y0, .int .i64 y1, .int .i64 y2, .int .i64 y3]).toArray) rfl (by kernel_rfl) (by kernel_rfl) (by kernel_rfl) (fun _ _ _ h => h) (yieldsIf_load_mid (by rfl) 38 _ rfl E 0 rfl [.int .i64 y0, .int .i64 y1, .int .i64 y2, .int .i64 y3] _ (fun _ h => h.1) Tryz.underlying38 rfl (by kernel_rfl)) (by assumption) ?_
   simp only [Act.put, tka, tkb, tkc]
   refine wpAnyH_take (i := 1) (oi := { dst := some 24, op := _, type := _, pos := _, after := _, guard := _ }) (v := .agg ([.slice a9 3 cap]).toArray) rfl (by kernel_rfl) (by kernel_rfl) (by kernel_rfl) (fun _ _ _ h => h) (yieldsIf_load_mid (by rfl) 25 _ rfl w.heap.size 0 rfl [.slice a9 3 cap] _ (fun _ h => h.2.1) Tryz.underlying25 rfl (by kernel_rfl)) (by assumption) ?_
   simp only [Act.put, tka, tkb, tkc]
   refine wpAnyH_take (i := 2) (oi := { dst := some 25, op := _, type := _, pos := _, after := _, guard := _ }) (v := .agg ([.slice t0a t0n t0c, .slice t1a t1n t1c, .slice t2a t2n t2c, .slice t3a t3n t3c]).toArray) rfl (by kernel_rfl) (by kernel_rfl) (by kernel_rfl) (fun _ _ _ h => h) (yieldsIf_load_mid (by rfl) 33 _ rfl (w.heap.size + 1) 0 rfl [.slice t0a t0n t0c, .slice t1a t1n t1c, .slice t2a t2n t2c, .slice t3a t3n t3c] _ (fun _ h => h.2.2.1) Tryz.underlying33 rfl (by kernel_rfl)) (by assumption) ?_
   simp only [Act.put, tka, tkb, tkc]
   refine tkm 3 26 (.slice (some ⟨lb, lo, none⟩) n c) ?_
   refine tkm 4 27 (.int .i64 (i : Int)) ?_
   refine tkm 5 28 (.pointer (some ⟨lb, lo + i, none⟩)) ?_
   refine tkm 6 29 (.int .i64 (q : Int)) ?_
   have bwd := bel_trans bw hdr
   replace pP := pP.below hdr
   replace pS := pS.below hdr
   replace pE := pE.below hdr
   have Q := owns_below HQ.out hdr
   replace hc := cells_kept hdr _ _ hc
   clear hdr HQ bw
   generalize wr.drew = V at *
   refine tkr 7 30 (fun K hK => ?_)
   go_simp
   refine (kEx V bwd).mono ?_
   rintro e V1 ⟨rfl, hb1⟩
   replace bwd := bel_trans bwd hb1
   replace pP := pP.below hb1
   replace pS := pS.below hb1
   replace pE := pE.below hb1
   replace Q := owns_below Q hb1
   replace hc := cells_kept hb1 _ _ hc
   clear hb1
   go_wp2_with fail
   refine hK.out _ _ ⟨blk_range pE, blk_range pP, blk_range pS, hc⟩ (fun hS9 => ?_)
   clear hK
   try simp only [Act.put, tka, tkb, tkc]
   clear hS0
   refine tkr 8 31 (fun K hK => ?_)
   go_simp
   refine (kD V1).mono ?_
   rintro e V2 ⟨rfl, hb2⟩
   replace bwd := bel_trans bwd hb2
   replace pP := pP.below hb2
   replace pS := pS.below hb2
   replace pE := pE.below hb2
   replace Q := owns_below Q hb2
   replace hc := cells_kept hb2 _ _ hc
   clear hb2
   go_wp2_with fail
   refine hK.out _ _ ⟨blk_range pE, blk_range pP, blk_range pS, hc⟩ (fun hS9 => ?_)
   clear hK
   try simp only [Act.put, tka, tkb, tkc]
   refine tkm 9 32 (.bool (!depM (y0, y1, y2, y3) (x0, x1, x2, x3))) ?_
   refine wpAnyH_done (by kernel_rfl) ?_ _
   cases hdp : depM (y0, y1, y2, y3) (x0, x1, x2, x3)
   ·have HX2 : Hid (stlJ rows m Z k (i + 1) = stlJ rows m Z k i ++ [(q : Int)]) := by rw [Hid, HX.out, hdp]; rfl
    clear HX hdp kEx kD
    have hwz := bwd.size
    go_wp2_with (at_builtin; refine wpList_append_own_at _ rfl _ _ 27 rfl w.heap.size 3 i1 (.int .i64 0) 1 8 Tryz.underlying27 hi1 hy0 hy1 hy2 rfl (by decide) _ _ _ rfl (Q.alloc _) ⟨V2.heap.size, 0, none⟩ 1 1 [.int .i64 (q : Int)] rfl rfl (cell_one_new _ _ _) (by simp [Value.oneCell']) ?c3 ?c4 ?c5 ?_)
    case c3 => unfold maxLen; omega
    case c4 => omega
    case c5 => first | (simp; omega) | omega
    intro v7 W7 q7 gr7 hn7 _
    have HN7 : Hid (v7 ≠ .slice none 0 0) := by first | exact hn7 | exact fun e => by have := (hn7.1 e).2; omega
    clear hn7
    have ha7 : Below V2.heap.size V2 (V2.alloc (.cells #[.int .i64 (q : Int)] 3)) := by go_grown
    have Q7 := owns_below Q ha7
    have R9 : Hid (W7.ownsRow w.heap.size 3 1 v7 (stlJ rows m Z k (i + 1)).length ((stlJ rows m Z k (i + 1)).map (Value.int .i64))) := by rw [HX2.out, List.length_append, List.map_append]; exact q7
    have pP7 := (pP.below ha7).kept gr7 (own_ne_blk9 Q7 (pP.below ha7) (by decide))
    have pS7 := (pS.below ha7).kept gr7 (own_ne_blk9 Q7 (pS.below ha7) (by decide))
    have pE7 := (pE.below ha7).kept gr7 (own_ne_blk9 Q7 (pE.below ha7) (by decide))
    have bw7 := (bel_trans bwd ha7).grown gr7 (bel_trans bwd ha7).size (fun x hx => (own_lt3 Q7 hx).1)
    clear Q Q7 q7 gr7 ha7 pP pS pE bwd HX2 hc
    go_wp2
    go_roundw
    case rel => exact ⟨i + 1, by go_num, by omega, HN7, R9, pP7, pS7, pE7, bw7⟩
    case measure => simp [intOf]; omega
   ·have HX2 : Hid (stlJ rows m Z k (i + 1) = stlJ rows m Z k i) := by rw [Hid, HX.out, hdp]; rfl
    have R9 : Hid (V2.ownsRow w.heap.size 3 1 (.slice va vn vc) (stlJ rows m Z k (i + 1)).length ((stlJ rows m Z k (i + 1)).map (Value.int .i64))) := by rw [HX2.out]; exact Q
    clear HX hdp kEx kD HX2 Q hc
    go_wp2
    go_roundw
    case rel => exact ⟨i + 1, by go_num, by omega, HNN, R9, pP, pS, pE, bwd⟩
    case measure => simp [intOf]; omega
  ·obtain rfl : i = n := by omega
   have hnl : ¬ ((i : Int) < (i : Int)) := by omega
   have HG : Hid (RowGotN (.returned (.slice va vn vc)) wr w.heap.size (stillM rows m Z (k : Int))) := by rw [← HSA.out]; exact ⟨_, rfl, HNN.out, HQ.out⟩
   clear HQ pP pS pE
   go_wp2
   go_ret
   exact ⟨HG.out, bw⟩
end Go.Proofs.YtdojjmkpelgcaaaGreatDoor
