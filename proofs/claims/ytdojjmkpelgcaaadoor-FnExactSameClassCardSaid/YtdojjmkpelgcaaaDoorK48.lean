/-
  Joined: SmL, ScW.
-/
import Derived.Test.YtdojjmkpelgcaaaDoorProg
import Derived.Deep.RegionHeld3
import Derived.KernelRfl
import Derived.Tactics
import Derived.WalkKit
import Derived.WalkSpells
import Derived.WalkLawsBesides
import Derived.RegionTactic
import Derived.BigQuiet
import Derived.Deep.QuietTactic
import Derived.Deep.Slices
import Derived.Deep.Strs
import Derived.Deep.Fields
import Derived.ChangeSame
import Derived.Handy
import Derived.OwnWalk
import Derived.ChangeSlices
import Derived.Lib.SmallJoins
import Derived.Shelf.Abstract
import Derived.Laws.BytesArg
import Derived.Deep.RegionLaw
import Derived.Laws.OwnMore
import Derived.Laws.CopyOwn
import Derived.Laws.Tables
import Derived.BigRegion
import Derived.Test.YtdojjmkpelgcaaaDoorK01
import Derived.Test.YtdojjmkpelgcaaaDoorK02
import Derived.Test.YtdojjmkpelgcaaaDoorK04
import Derived.Test.YtdojjmkpelgcaaaDoorK08
import Derived.Test.YtdojjmkpelgcaaaDoorK09
import Derived.Test.YtdojjmkpelgcaaaDoorK11

/-
  The specification's l05Same: whether two rows of numbers are the same.
-/
namespace Go.Proofs.YtdojjmkpelgcaaaDoor
open Go.RowKit

theorem ext_getDL {xs ys : List Int} (hl : xs.length = ys.length) (h : ∀ i, i < xs.length → xs.getD i 0 = ys.getD i 0) : xs = ys := by
  refine List.ext_getElem hl (fun i h1 h2 => ?_)
  have := h i h1
  simpa [List.getD, h1, h2] using this

set_option maxHeartbeats 1000000 in
set_option maxRecDepth 100000 in
theorem l05Same_is (a : Option Addr) (n c : Nat) (xs : List Int) (a' : Option Addr) (n' c' : Nat) (ys : List Int) (w : World) (h : Ints .i64 w a n c xs) (h' : Ints .i64 w a' n' c' ys) :
    Calls Tryd.prog 59 #[.slice a n c, .slice a' n' c'] w fun e w' => e = .returned (.bool (decide (xs = ys))) ∧ ∃ d, w' = w.drewN d := by
  obtain ⟨dd, hdd⟩ : ∃ dd, dd = decide (xs = ys) := ⟨_, rfl⟩
  rw [← hdd]
  have HD : Hid (dd = decide (xs = ys)) := hdd
  clear hdd
  obtain ⟨hl, hlc, hcm, hcase⟩ := h
  obtain ⟨hl', hlc', hcm', hcase'⟩ := h'
  unfold maxLen at hcm hcm'
  by_cases hnn : n = n'
  case neg =>
    have hne : ((n : Int) != (n' : Int)) = true := by simp; omega
    have HF : Hid (dd = false) := by
      rw [Hid, HD.out, decide_eq_false_iff_not]
      intro e
      rw [e, hl'] at hl
      exact hnn hl.symm
    clear hcase hcase'
    go_enter Tryd.func59, Tryd.ntmps59
    go_wp2
    go_ret
    exact ⟨by rw [HF.out]; rfl, 0, rfl⟩
  subst hnn
  have hne : ((n : Int) != (n : Int)) = false := by simp
  by_cases h0 : n = 0
  · subst h0
    have HT : Hid (dd = true) := by
      rw [Hid, HD.out, decide_eq_true_iff, List.length_eq_zero_iff.1 hl, List.length_eq_zero_iff.1 hl']
    clear hcase hcase' hl hl'
    go_enter Tryd.func59, Tryd.ntmps59
    go_wp2
    refine wp_loop_rounds 1 ?_
    rw [rounds_succ]
    go_wp2
    go_ret
    exact ⟨by rw [HT.out]; rfl, 0, rfl⟩
  · rcases hcase with h0' | ⟨b, off, rfl, hblt, hcell⟩
    · exact absurd h0' h0
    rcases hcase' with h0' | ⟨b', off', rfl, hblt', hcell'⟩
    · exact absurd h0' h0
    have HL : Hid (xs.length = n ∧ ys.length = n) := ⟨hl, hl'⟩
    clear hl hl'
    go_enter Tryd.func59, Tryd.ntmps59
    go_wp2
    go_loopw [5] (fun si wr => ∃ k d : Nat, k ≤ n ∧ si = .int .i64 k ∧ Hid (∀ i, i < k → xs.getD i 0 = ys.getD i 0) ∧ wr = w.drewN d) (fun si _ => n - (intOf si).toNat)
    case atStart => exact ⟨0, 0, by omega, rfl, fun i hi => by omega, rfl⟩
    case round =>
      obtain ⟨k, d, hk, rfl, hH, rfl⟩ := hrel
      by_cases hlt : k < n
      · have hc := hcell k hlt
        have hc' := hcell' k hlt
        have hlt' : (k : Int) < (n : Int) := by omega
        clear hcell hcell'
        by_cases hx : xs.getD k 0 = ys.getD k 0
        · have hH2 : Hid (∀ i, i < k + 1 → xs.getD i 0 = ys.getD i 0) := fun i hi => by
            by_cases e : i = k
            · subst e; exact hx
            · exact hH.out i (by omega)
          rw [← hx] at hc'
          clear hx hH
          generalize xs.getD k 0 = x at hc hc'
          have hxx : (x != x) = false := by simp
          go_wp2
          go_quiet (fail)
          go_wp2
          go_roundw
          case rel => exact ⟨k + 1, _, by omega, by go_num, hH2, rfl⟩
          case measure => simp [intOf]; omega
        · have HF : Hid (dd = false) := by
            rw [Hid, HD.out, decide_eq_false_iff_not]
            intro e
            rw [e] at hx
            exact hx rfl
          have hxx : (xs.getD k 0 != ys.getD k 0) = true := by simpa using hx
          clear hx hH
          generalize xs.getD k 0 = x at hc hxx
          generalize ys.getD k 0 = y at hc' hxx
          go_wp2
          go_quiet (fail)
          go_wp2
          go_ret
          exact ⟨by rw [HF.out]; rfl, d + nq, by simp [World.drewN]; omega⟩
      · have HT : Hid (dd = true) := by
          rw [Hid, HD.out, decide_eq_true_iff]
          have hL := HL.out
          exact ext_getDL (by omega) (fun i hi => hH.out i (by omega))
        clear hcell hcell' hH
        go_wp2
        go_ret
        exact ⟨by rw [HT.out]; rfl, d, rfl⟩
end Go.Proofs.YtdojjmkpelgcaaaDoor


/-
  FnExactSameClass, given what both answer: the law's walk.
-/
namespace Go.Proofs.YtdojjmkpelgcaaaDoor
open Go.RowKit
set_option linter.unusedVariables false
set_option linter.unusedSimpArgs false

set_option maxHeartbeats 800000 in
set_option maxRecDepth 100000 in
theorem fnExactSameClass_of (a0 : Option Addr) (n0 c0 : Nat) (r0 : List (List I3)) (a1 : Option Addr) (n1 c1 : Nat) (a2 : Option Addr) (n2 c2 : Nat) (k1 : List Int) (k2 : List Int) (x0 : Bool) (x1 : Int) (w : World) (h0 : Codes w a0 n0 c0 r0) (h1 : Ints .i64 w a1 n1 c1 k1) (h2 : Ints .i64 w a2 n2 c2 k2) (hG : VmShape w)
    (kS : ∀ (a0 : Option Addr) (n0 c0 : Nat) (a1 : Option Addr) (n1 c1 : Nat) (a2 : Option Addr) (n2 c2 : Nat) (w : World), Codes w a0 n0 c0 r0 → Ints .i64 w a1 n1 c1 k1 → Ints .i64 w a2 n2 c2 k2 → Calls Tryd.prog 26 #[.agg #[.slice a0 n0 c0], .slice a1 n1 c1, .slice a2 n2 c2] w fun e w' => e = .returned (.tuple #[.bool x0, .int .i64 x1]) ∧ Below w.heap.size w w')
    (kI : ∀ (a0 : Option Addr) (n0 c0 : Nat) (a1 : Option Addr) (n1 c1 : Nat) (a2 : Option Addr) (n2 c2 : Nat) (w : World), Codes w a0 n0 c0 r0 → Ints .i64 w a1 n1 c1 k1 → Ints .i64 w a2 n2 c2 k2 → VmShape w → Calls Tryd.prog 27 #[.agg #[.slice a0 n0 c0], .slice a1 n1 c1, .slice a2 n2 c2] w fun e w' => e = .returned (.tuple #[.bool x0, .int .i64 x1]) ∧ Below w.heap.size w w') :
    Calls Tryd.prog 5 #[.agg #[.slice a0 n0 c0], .slice a1 n1 c1, .slice a2 n2 c2] w fun e w' => e = .returned (.bool true) ∧ Below w.heap.size w w' := by
  have kT := fun W h => toProgram_copy a0 n0 c0 r0 W h
  have kL1 := fun W h hl => toIntS_any a1 n1 c1 k1 W h hl
  have kL2 := fun W h hl => toIntS_any a2 n2 c2 k2 W h hl
  have bw : Below w.heap.size w (w.alloc (.cells #[.slice a0 n0 c0] 42)) := by go_grown
  have p0 : Blk (w.alloc (.cells #[.slice a0 n0 c0] 42)) w.heap.size 42 [.slice a0 n0 c0] := blkAt _ _ _ rfl
  by_cases g1 : 1048576 < n1
  · have g9 : (1048576 : Int) < (n1 : Int) := by omega
    clear g1 kS kI kT p0  kL1 kL2
    go_enter Tryd.func5, Tryd.ntmps5
    go_wp2
    go_ret
    exact ⟨rfl, bw⟩
  by_cases g2 : 1048576 < n2
  · have g9 : (1048576 : Int) < (n2 : Int) := by omega
    have f9 : ¬ (1048576 : Int) < (n1 : Int) := by omega
    clear g1 g2 kS kI kT p0  kL1 kL2
    go_enter Tryd.func5, Tryd.ntmps5
    go_wp2
    go_ret
    exact ⟨rfl, bw⟩
  have e1 : ¬ (1048576 : Int) < (n1 : Int) := by omega
  replace kL1 := fun W h => kL1 W h (by omega)
  clear g1
  have e2 : ¬ (1048576 : Int) < (n2 : Int) := by omega
  replace kL2 := fun W h => kL2 W h (by omega)
  clear g2
  go_enter Tryd.func5, Tryd.ntmps5
  go_wp2_with fail
  generalize (w.alloc (.cells #[.slice a0 n0 c0] 42)) = W0 at *
  go_wp2_with (first | refine wpList_load_blk rfl 42 _ rfl w.heap.size rfl p0 _ Tryd.underlying42 rfl (by kernel_rfl) ?_)
  have hz := sizeLeft_or r0 1048576 (by omega)
  have hbd := size_bounds (rows := r0) (left := 1048576) (by omega)
  refine (szProgram_less a0 n0 c0 r0 1048576 _ (h0.below bw) (by omega) (by omega)).mono ?_
  rintro e wz ⟨rfl, hb⟩
  generalize sizeLeft 1048576 r0 = zl at hz hbd
  replace bw := bel_trans bw hb
  replace p0 := p0.below hb
  clear hb
  rcases hz with rfl | ⟨yl, xl⟩
  · clear hbd
    go_wp2
    go_ret
    exact ⟨rfl, bw⟩
  obtain ⟨hr, hr'⟩ := hbd yl (by omega)
  have hlen : n0 ≤ 1048576 := by rw [← h0.1]; exact hr
  replace kT := fun W h => kT W h hlen (fun t _ => hr' t)
  clear hbd hr hr' hlen
  have hn0 : decide (zl < 0) = false := by simp; omega
  clear yl xl
  go_wp2_with (first | refine wpList_load_blk rfl 42 _ rfl w.heap.size rfl p0 _ Tryd.underlying42 rfl (by kernel_rfl) ?_)
  refine (kT _ (h0.below bw)).mono ?_
  rintro e wa ⟨rfl, hO, hb⟩
  have hA := hO.codes
  clear hO
  generalize wz.heap.size + 3 = ga at hA ⊢
  replace bw := bel_trans bw hb
  replace p0 := p0.below hb
  clear hb
  go_wp2_with fail
  refine (kL1 _ (h1.below bw)).mono ?_
  rintro e wb1 ⟨rfl, hO, hb⟩
  have hB1 := Ints.of_owns hO
  clear hO
  generalize wa.heap.size = gb1 at hB1 ⊢
  replace bw := bel_trans bw hb
  replace p0 := p0.below hb
  replace hA := hA.below hb
  clear hb
  go_wp2_with fail
  refine (kL2 _ (h2.below bw)).mono ?_
  rintro e wb2 ⟨rfl, hO, hb⟩
  have hB2 := Ints.of_owns hO
  clear hO
  generalize wb1.heap.size = gb2 at hB2 ⊢
  replace bw := bel_trans bw hb
  replace p0 := p0.below hb
  replace hA := hA.below hb
  replace hB1 := hB1.below hb
  clear hb
  go_wp2_with fail
  refine (kS _ _ _ _ _ _ _ _ _ _ hA hB1 hB2).mono ?_
  rintro e wr ⟨rfl, hb⟩
  replace bw := bel_trans bw hb
  replace p0 := p0.below hb
  clear hb hA kS hB1 hB2
  go_wp2_with (first | refine wpList_load_blk rfl 42 _ rfl w.heap.size rfl p0 _ Tryd.underlying42 rfl (by kernel_rfl) ?_)
  refine (kT _ (h0.below bw)).mono ?_
  rintro e wx ⟨rfl, hO, hb⟩
  have hX := hO.codes
  clear hO
  generalize wr.heap.size + 3 = gx at hX ⊢
  replace bw := bel_trans bw hb
  replace p0 := p0.below hb
  clear hb
  have ha : Below wx.heap.size wx (wx.alloc (.cells #[.slice (some ⟨gx, 0, none⟩) n0 n0] 25)) := by go_grown
  have pX : Blk (wx.alloc (.cells #[.slice (some ⟨gx, 0, none⟩) n0 n0] 25)) wx.heap.size 25 [.slice (some ⟨gx, 0, none⟩) n0 n0] := blkAt _ _ _ rfl
  replace bw := bel_trans bw ha
  replace p0 := p0.below ha
  replace hX := hX.below ha
  clear ha
  go_wp2_with fail
  generalize wx.alloc (.cells #[.slice (some ⟨gx, 0, none⟩) n0 n0] 25) = wp at *
  generalize wx.heap.size = GX at *
  refine (kL1 _ (h1.below bw)).mono ?_
  rintro e wy1 ⟨rfl, hO, hb⟩
  have hY1 := Ints.of_owns hO
  clear hO
  generalize wp.heap.size = gy1 at hY1 ⊢
  replace bw := bel_trans bw hb
  replace p0 := p0.below hb
  replace hX := hX.below hb
  replace pX := pX.below hb
  clear hb
  go_wp2_with fail
  refine (kL2 _ (h2.below bw)).mono ?_
  rintro e wy2 ⟨rfl, hO, hb⟩
  have hY2 := Ints.of_owns hO
  clear hO
  generalize wy1.heap.size = gy2 at hY2 ⊢
  replace bw := bel_trans bw hb
  replace p0 := p0.below hb
  replace hX := hX.below hb
  replace pX := pX.below hb
  replace hY1 := hY1.below hb
  clear hb
  have hne0 : (x0 != x0) = false := by simp
  have hne1 : (x1 != x1) = false := by simp
  go_wp2_with (first | refine wpList_load_blk rfl 25 _ rfl GX rfl pX _ Tryd.underlying25 rfl (by kernel_rfl) ?_)
  refine (kI _ _ _ _ _ _ _ _ _ _ hX hY1 hY2 (hG.below bw)).mono ?_
  rintro e wj ⟨rfl, hb⟩
  replace bw := bel_trans bw hb
  replace p0 := p0.below hb
  replace hX := hX.below hb
  replace pX := pX.below hb
  replace hY1 := hY1.below hb
  replace hY2 := hY2.below hb
  clear hb kI
  have c9 := pX.cell 0
  have c8 := p0.cell 0
  simp only [List.getElem?_cons_zero, List.getElem?_cons_succ] at c9 c8
  go_wp2_with fail
  have hdr : Below wj.heap.size wj wj.drew := by go_grown
  have bd := bel_trans bw hdr
  refine wp_region_held_drew (S := (fun w' => w'.cell? ⟨GX, 0, none⟩ = some (.slice (some ⟨gx, 0, none⟩) n0 n0) ∧ w'.cell? ⟨w.heap.size, 0, none⟩ = some (.slice a0 n0 c0))) (by kernel_rfl) ⟨c9, c8⟩ (fun hS0 => ?_)
  refine tkm 0 57 (.agg #[.slice (some ⟨gx, 0, none⟩) n0 n0]) ?_
  refine tkm 1 58 (.agg #[.slice a0 n0 c0]) ?_
  refine tkr 2 59 (fun K hK => ?_)
  go_simp
  refine (kT _ (h0.below bd)).mono ?_
  rintro e wk ⟨rfl, hO, hb1⟩
  go_wp2_with fail
  refine hK.out _ _ ?_ (fun hS1 => ?_)
  · exact ⟨cells_kept hb1 _ _ hS0.1, cells_kept hb1 _ _ hS0.2⟩
  clear hK
  have hK9 := hO.codes
  clear hO
  refine tkr 3 60 (fun K hK => ?_)
  go_simp
  refine (eqProgram_same _ _ _ _ _ r0 _ (hX.below (bel_trans hdr hb1)) hK9).mono ?_
  rintro e wl ⟨rfl, hb2⟩
  go_wp2_with fail
  refine hK.out _ _ ?_ (fun hS2 => ?_)
  · exact ⟨cells_kept hb2 _ _ hS1.1, cells_kept hb2 _ _ hS1.2⟩
  clear hK
  refine tkm 4 61 (.bool false) ?_
  refine wpAnyH_done (by kernel_rfl) ?_ _
  have hb9 : Below wj.heap.size wj wl := bel_trans hdr (bel_trans hb1 hb2)
  replace bw := bel_trans bw hb9
  replace hY1 := hY1.below hb9
  replace hY2 := hY2.below hb9
  clear hb9 hb1 hb2 hdr bd hS0 hS1 hS2 c9 c8 hX pX p0 kT hK9
  go_wp2_with fail
  refine (kL1 _ (h1.below bw)).mono ?_
  rintro e wm1 ⟨rfl, hO, hb⟩
  have hM := Ints.of_owns hO
  clear hO
  replace bw := bel_trans bw hb
  replace hY1 := hY1.below hb
  replace hY2 := hY2.below hb
  clear hb
  go_wp2_with fail
  refine (eqIntS_same _ _ _ _ _ k1 _ hY1 hM).mono ?_
  rintro e wn1 ⟨rfl, d1, hd⟩
  subst hd
  replace bw := bel_trans bw (below_dN d1)
  replace hY2 := hY2.below (below_dN d1)
  clear hM hY1
  go_wp2_with fail
  refine (kL2 _ (h2.below bw)).mono ?_
  rintro e wm2 ⟨rfl, hO, hb⟩
  have hM := Ints.of_owns hO
  clear hO
  replace bw := bel_trans bw hb
  replace hY2 := hY2.below hb
  clear hb
  go_wp2_with fail
  refine (eqIntS_same _ _ _ _ _ k2 _ hY2 hM).mono ?_
  rintro e wn2 ⟨rfl, d2, hd⟩
  subst hd
  replace bw := bel_trans bw (below_dN d2)
  clear hM hY2
  go_wp2
  go_ret
  exact ⟨rfl, bw⟩
end Go.Proofs.YtdojjmkpelgcaaaDoor

