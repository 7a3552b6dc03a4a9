/-
  Joined: SameVmI, VmLaid, RowBelow, Vars.
-/
import Derived.Test.YtdojjmkpelgcaaaGreatDoorProg
import Derived.Deep.RegionHeld3
import Derived.KernelRfl
import Derived.Tactics
import Derived.WalkKit
import Derived.WalkSpells
import Derived.WalkLawsBesides
import Derived.RegionTactic
import Derived.BigQuiet
import Derived.Deep.QuietTactic
import Derived.Deep.Slices
import Derived.Deep.Strs
import Derived.Deep.Fields
import Derived.ChangeSame
import Derived.ChangeSlices
import Derived.Lib.SmallJoins
import Derived.Handy
import Derived.OwnWalk
import Derived.Shelf.Abstract
import Derived.Laws.BytesArg
import Derived.Deep.RegionLaw
import Derived.Laws.OwnMore
import Derived.Test.YtdojjmkpelgcaaaGreatDoorRows
import Derived.ProofKit
import Derived.OpenShut
import Derived.LaidMore
import Derived.MakeChecks
import Derived.Stop.LaidErr
import Derived.WalkSmall
import Derived.ChangeOld
import Derived.Test.YtdojjmkpelgcaaaGreatDoorK01
import Derived.Test.YtdojjmkpelgcaaaGreatDoorK02
import Derived.Test.YtdojjmkpelgcaaaGreatDoorK04
import Derived.Test.YtdojjmkpelgcaaaGreatDoorK07
import Derived.Test.YtdojjmkpelgcaaaGreatDoorK12
import Derived.Test.YtdojjmkpelgcaaaGreatDoorK44

/-
  impl.SameVm: slices.Equal at integers; keys tell states apart; FnExactSameVm's other side.
-/
namespace Go.Proofs.YtdojjmkpelgcaaaGreatDoor
open Go.RowKit

theorem digit_inj {a b : Int} (ha : 0 ≤ a ∧ a ≤ 9) (hb : 0 ≤ b ∧ b ≤ 9) (h : UInt8.ofNat (48 + a).toNat = UInt8.ofNat (48 + b).toNat) : a = b := by
  have := congrArg UInt8.toNat h
  rw [UInt8.toNat_ofNat', UInt8.toNat_ofNat'] at this
  omega
theorem digits_inj : ∀ {xs ys : List Int}, (∀ z ∈ xs, 0 ≤ z ∧ z ≤ 9) → (∀ z ∈ ys, 0 ≤ z ∧ z ≤ 9) → (xs.map fun z => 48 + z).map (fun n : Int => UInt8.ofNat n.toNat) = (ys.map fun z => 48 + z).map (fun n : Int => UInt8.ofNat n.toNat) → xs = ys
  | [], [], _, _, _ => rfl
  | [], _ :: _, _, _, h => by simp at h
  | _ :: _, [], _, _, h => by simp at h
  | x :: xs, y :: ys, hx, hy, h => by
    simp only [List.map_cons, List.cons.injEq] at h
    rw [digit_inj (hx x (by simp)) (hy y (by simp)) h.1, digits_inj (fun z hz => hx z (by simp [hz])) (fun z hz => hy z (by simp [hz])) h.2]
theorem keyT_inj {m q : V4} (hm : shapeOk m = true) (hq : shapeOk q = true) (h : (keyT m).toList = (keyT q).toList) : m = q := by
  obtain ⟨l0, l1, l2, l3, d⟩ := shape_parts hm
  obtain ⟨k0, k1, k2, k3, e⟩ := shape_parts hq
  have hall : allOf m = allOf q := by
    refine digits_inj d e ?_
    rw [ByteArray.toList_eq, ByteArray.toList_eq] at h
    exact h
  unfold allOf at hall
  obtain ⟨h1, e3⟩ := List.append_inj hall (by simp; omega)
  obtain ⟨h2, e2⟩ := List.append_inj h1 (by simp; omega)
  obtain ⟨e0, e1⟩ := List.append_inj h2 (by omega)
  obtain ⟨a, b, c, f⟩ := m
  obtain ⟨a', b', c', f'⟩ := q
  simp only at e0 e1 e2 e3
  rw [e0, e1, e2, e3]
theorem sameV_eq (m q : V4) : sameV m q = (shapeOk m && (shapeOk q && decide (m = q))) := by
  unfold sameV
  cases hm : shapeOk m
  · rfl
  cases hq : shapeOk q
  · rfl
  by_cases h : m = q
  · subst h; simp
  · have : ¬ (keyT m).toList = (keyT q).toList := fun e => h (keyT_inj hm hq e)
    simp [h, this]

theorem bel_dN (w : World) (n : Nat) : Below w.heap.size w (w.drewN n) := ⟨rfl, rfl, rfl, Nat.le_refl _, fun _ _ => rfl⟩

set_option maxHeartbeats 1000000 in
set_option maxRecDepth 100000 in
theorem equalI_is (a a' : Option Addr) (len cap cap' : Nat) (xs ys : List Int) (w : World) (h : Ints .i64 w a len cap xs) (h' : Ints .i64 w a' len cap' ys) (hpos : len ≠ 0) :
    Calls Tryz.prog 58 #[.slice a len cap, .slice a' len cap'] w fun e w' => e = .returned (.bool (decide (xs = ys))) ∧ Below w.heap.size w w' := by
  obtain ⟨hl, hlc, hcm, hcase⟩ := h
  obtain ⟨hl', hlc', hcm', hcase'⟩ := h'
  unfold maxLen at hcm hcm'
  rcases hcase with h0' | ⟨b, off, rfl, hblt, hcell⟩
  · exact absurd h0' hpos
  rcases hcase' with h0' | ⟨b', off', rfl, hblt', hcell'⟩
  · exact absurd h0' hpos
  have hne : ((len : Int) != (len : Int)) = false := by simp
  obtain ⟨fin, hfin⟩ : ∃ fin, fin = decide (xs = ys) := ⟨_, rfl⟩
  rw [← hfin]
  have HF : Hid (fin = decide (xs = ys)) := hfin
  clear hfin
  go_enter Tryz.func58, Tryz.ntmps58
  go_wp2
  go_loopw [13] (fun si wr => ∃ (k : Nat), k ≤ len ∧ si = .int .i64 k ∧ Hid (xs.take k = ys.take k) ∧ Below w.heap.size w wr) (fun si _ => len - (intOf si).toNat)
  case atStart => exact ⟨0, by omega, rfl, by simp [Hid], Below.refl _ _⟩
  case round =>
    obtain ⟨k, hk, rfl, hH', hbel⟩ := hrel
    by_cases hlt : k < len
    · have c0 := hcell k hlt
      have e0 := hcell' k hlt
      rw [← hbel.cell (p := ⟨b, _, none⟩) hblt] at c0
      rw [← hbel.cell (p := ⟨b', _, none⟩) hblt'] at e0
      have hlt' : (k : Int) < (len : Int) := by omega
      have hk0 : (0 : Int) ≤ (k : Int) := by omega
      have hxg : Hid (xs.getD k 0 = xs[k]'(by omega) ∧ ys.getD k 0 = ys[k]'(by omega)) := ⟨by simp [List.getD, hl, hlt], by simp [List.getD, hl', hlt]⟩
      by_cases hxy : xs.getD k 0 = ys.getD k 0
      · have hH2 : Hid (xs.take (k + 1) = ys.take (k + 1)) := by
          rw [Hid, List.take_succ_eq_append_getElem (by omega), List.take_succ_eq_append_getElem (by omega), hH'.out, ← hxg.out.1, ← hxg.out.2, hxy]
        rw [← hxy] at e0
        clear hcell hcell' hxg hxy hH'
        generalize xs.getD k 0 = x at c0 e0
        have hxx : (x != x) = false := by simp
        go_wp2_with fail
        go_quiet (fail)
        have hb2 : Below w.heap.size w (wr.drewN nq) := bel_trans hbel (bel_dN _ _)
        go_wp2
        go_roundw
        case rel => exact ⟨k + 1, by omega, by go_num, hH2, hb2⟩
        case measure => simp [intOf]; omega
      · obtain rfl : fin = false := by
          rw [HF.out, decide_eq_false_iff_not]
          intro h
          subst h
          exact hxy rfl
        clear hcell hcell' hxg hH' HF
        generalize xs.getD k 0 = x at c0 hxy
        generalize ys.getD k 0 = y at e0 hxy
        have hxx : (x != y) = true := by simp [hxy]
        have hb2 : ∀ nq, Below w.heap.size w (wr.drewN nq) := fun nq => bel_trans hbel (bel_dN _ _)
        go_wp2_with fail
        go_quiet (fail)
        go_wp2
        go_ret
        exact ⟨rfl, hb2 _⟩
    · obtain rfl : k = len := by omega
      obtain rfl : fin = true := by
        rw [HF.out, decide_eq_true_eq]
        have h9 := hH'.out
        rwa [List.take_of_length_le (by omega), List.take_of_length_le (by omega)] at h9
      clear hcell hcell' hH' HF
      go_wp2
      go_ret
      exact ⟨rfl, hbel⟩

set_option maxHeartbeats 8000000 in
set_option maxRecDepth 100000 in
theorem implSameVm_is (s : S4) (m : V4) (t : S4) (q : V4) (w : World) (hA : Vmem w s m) (hB : Vmem w t q) (hV : VmShape w) :
    Calls Tryz.prog 17 #[s.val, t.val] w fun e w' => e = .returned (.bool (sameV m q)) ∧ Below w.heap.size w w' := by
  have kA := fun w h => right_is s m w h
  have kB := fun w h => right_is t q w h
  have kLA := fun w => lists_is s w
  have kLB := fun w => lists_is t w
  have hMA := fun (W : World) (hb : Below w.heap.size w W) => hA.below hb
  have hMB := fun (W : World) (hb : Below w.heap.size w W) => hB.below hb
  rw [sameV_eq]
  have hpA := fun h : shapeOk m = true => shape_parts h
  have hpB := fun h : shapeOk q = true => shape_parts h
  obtain ⟨⟨i0, _⟩, ⟨i1, _⟩, ⟨i2, _⟩, ⟨i3, _⟩⟩ := hA
  obtain ⟨⟨j0, _⟩, ⟨j1, _⟩, ⟨j2, _⟩, ⟨j3, _⟩⟩ := hB
  obtain ⟨⟨a0, n0, c0⟩, ⟨a1, n1, c1⟩, ⟨a2, n2, c2⟩, ⟨a3, n3, c3⟩⟩ := s
  obtain ⟨⟨b0, k0, d0⟩, ⟨b1, k1, d1⟩, ⟨b2, k2, d2⟩, ⟨b3, k3, d3⟩⟩ := t
  have uA : S4.val ((a0, n0, c0), (a1, n1, c1), (a2, n2, c2), (a3, n3, c3)) = .agg #[.slice a0 n0 c0, .slice a1 n1 c1, .slice a2 n2 c2, .slice a3 n3 c3] := rfl
  have uB : S4.val ((b0, k0, d0), (b1, k1, d1), (b2, k2, d2), (b3, k3, d3)) = .agg #[.slice b0 k0 d0, .slice b1 k1 d1, .slice b2 k2 d2, .slice b3 k3 d3] := rfl
  rw [uA] at kA kLA
  rw [uB] at kB kLB
  rw [uA, uB]
  clear uA uB
  have bw : Below w.heap.size w ((w.alloc (.cells #[.slice a0 n0 c0, .slice a1 n1 c1, .slice a2 n2 c2, .slice a3 n3 c3] 33)).alloc (.cells #[.slice b0 k0 d0, .slice b1 k1 d1, .slice b2 k2 d2, .slice b3 k3 d3] 33)) := by go_grown
  have pA : Blk ((w.alloc (.cells #[.slice a0 n0 c0, .slice a1 n1 c1, .slice a2 n2 c2, .slice a3 n3 c3] 33)).alloc (.cells #[.slice b0 k0 d0, .slice b1 k1 d1, .slice b2 k2 d2, .slice b3 k3 d3] 33)) w.heap.size 33 [.slice a0 n0 c0, .slice a1 n1 c1, .slice a2 n2 c2, .slice a3 n3 c3] := (Blk.new w _ [.slice a0 n0 c0, .slice a1 n1 c1, .slice a2 n2 c2, .slice a3 n3 c3]).below (by go_grown)
  have pB : Blk ((w.alloc (.cells #[.slice a0 n0 c0, .slice a1 n1 c1, .slice a2 n2 c2, .slice a3 n3 c3] 33)).alloc (.cells #[.slice b0 k0 d0, .slice b1 k1 d1, .slice b2 k2 d2, .slice b3 k3 d3] 33)) (w.heap.size + 1) 33 [.slice b0 k0 d0, .slice b1 k1 d1, .slice b2 k2 d2, .slice b3 k3 d3] := by
    have h9 := Blk.new (w.alloc (.cells #[.slice a0 n0 c0, .slice a1 n1 c1, .slice a2 n2 c2, .slice a3 n3 c3] 33)) 33 [.slice b0 k0 d0, .slice b1 k1 d1, .slice b2 k2 d2, .slice b3 k3 d3]
    rwa [World.size_alloc] at h9
  cases hx : shapeOk m
  · rw [hx] at kA
    go_enter Tryz.func17, Tryz.ntmps17
    go_wp2_with fail
    refine (kA _ (hMA _ bw) (hV.below bw)).mono ?_
    rintro e w1 ⟨rfl, hb⟩
    replace bw := bel_trans bw hb
    go_wp2
    go_ret
    exact ⟨rfl, bw⟩
  rw [hx] at kA
  cases hy : shapeOk q
  · rw [hy] at kB
    go_enter Tryz.func17, Tryz.ntmps17
    go_wp2_with fail
    refine (kA _ (hMA _ bw) (hV.below bw)).mono ?_
    rintro e w1 ⟨rfl, hb⟩
    replace bw := bel_trans bw hb
    replace pB := pB.below hb
    have g0 := pB.cell 0
    have g1 := pB.cell 1
    have g2 := pB.cell 2
    have g3 := pB.cell 3
    simp at g0 g1 g2 g3
    go_wp2_with fail
    refine (kB _ (hMB _ bw) (hV.below bw)).mono ?_
    rintro e w2 ⟨rfl, hb2⟩
    replace bw := bel_trans bw hb2
    clear g0 g1 g2 g3
    go_wp2
    go_ret
    exact ⟨rfl, bw⟩
  rw [hy] at kB
  obtain ⟨l0, l1, l2, l3, _⟩ := hpA hx
  obtain ⟨r0, r1, r2, r3, _⟩ := hpB hy
  obtain ⟨m0, m1, m2, m3⟩ := m
  obtain ⟨q0, q1, q2, q3⟩ := q
  simp only at i0 i1 i2 i3 j0 j1 j2 j3 l0 l1 l2 l3 r0 r1 r2 r3
  obtain rfl : n0 = 3 := i0.1.symm.trans l0
  obtain rfl : n1 = 4 := i1.1.symm.trans l1
  obtain rfl : n2 = 2 := i2.1.symm.trans l2
  obtain rfl : n3 = 6 := i3.1.symm.trans l3
  obtain rfl : k0 = 3 := j0.1.symm.trans r0
  obtain rfl : k1 = 4 := j1.1.symm.trans r1
  obtain rfl : k2 = 2 := j2.1.symm.trans r2
  obtain rfl : k3 = 6 := j3.1.symm.trans r3
  have z0 := fun (W : World) (hb : Below w.heap.size w W) => equalI_is a0 b0 3 c0 d0 m0 q0 W (i0.below hb) (j0.below hb) (by decide)
  have z1 := fun (W : World) (hb : Below w.heap.size w W) => equalI_is a1 b1 4 c1 d1 m1 q1 W (i1.below hb) (j1.below hb) (by decide)
  have z2 := fun (W : World) (hb : Below w.heap.size w W) => equalI_is a2 b2 2 c2 d2 m2 q2 W (i2.below hb) (j2.below hb) (by decide)
  have z3 := fun (W : World) (hb : Below w.heap.size w W) => equalI_is a3 b3 6 c3 d3 m3 q3 W (i3.below hb) (j3.below hb) (by decide)
  have hfin : decide ((m0, m1, m2, m3) = (q0, q1, q2, q3)) = (decide (m0 = q0) && (decide (m1 = q1) && (decide (m2 = q2) && decide (m3 = q3)))) := by
    simp only [Prod.mk.injEq, Bool.decide_and]
  rw [hfin]
  clear hfin i0 i1 i2 i3 j0 j1 j2 j3 l0 l1 l2 l3 r0 r1 r2 r3 hpA hpB
  generalize decide (m0 = q0) = x0 at *
  generalize decide (m1 = q1) = x1 at *
  generalize decide (m2 = q2) = x2 at *
  generalize decide (m3 = q3) = x3 at *
  have y0 := idx4_0 (.slice a0 3 c0) (.slice a1 4 c1) (.slice a2 2 c2) (.slice a3 6 c3)
  have y1 := idx4_1 (.slice a0 3 c0) (.slice a1 4 c1) (.slice a2 2 c2) (.slice a3 6 c3)
  have y2 := idx4_2 (.slice a0 3 c0) (.slice a1 4 c1) (.slice a2 2 c2) (.slice a3 6 c3)
  have y3 := idx4_3 (.slice a0 3 c0) (.slice a1 4 c1) (.slice a2 2 c2) (.slice a3 6 c3)
  go_enter Tryz.func17, Tryz.ntmps17
  go_wp2_with fail
  refine (kA _ (hMA _ bw) (hV.below bw)).mono ?_
  rintro e w1 ⟨rfl, hb⟩
  replace bw := bel_trans bw hb
  replace pA := pA.below hb
  replace pB := pB.below hb
  have g0 := pB.cell 0
  have g1 := pB.cell 1
  have g2 := pB.cell 2
  have g3 := pB.cell 3
  simp at g0 g1 g2 g3
  clear hb kA
  go_wp2_with fail
  refine (kB _ (hMB _ bw) (hV.below bw)).mono ?_
  rintro e w2 ⟨rfl, hb⟩
  replace bw := bel_trans bw hb
  replace pA := pA.below hb
  replace pB := pB.below hb
  replace g0 := cells_kept hb _ _ g0
  replace g1 := cells_kept hb _ _ g1
  replace g2 := cells_kept hb _ _ g2
  replace g3 := cells_kept hb _ _ g3
  clear hb kB hMA hMB hV
  go_wp2_with fail
  refine (kLB _).mono ?_
  rintro e w3 ⟨rfl, hb⟩
  replace bw := bel_trans bw hb
  replace pA := pA.below hb
  clear hb kLB g0 g1 g2 g3 pB
  have hb4 : Below w3.heap.size w3 (w3.alloc (.cells #[.slice b0 3 d0, .slice b1 4 d1, .slice b2 2 d2, .slice b3 6 d3] 105)) := by go_grown
  have pC := Blk.new w3 105 [.slice b0 3 d0, .slice b1 4 d1, .slice b2 2 d2, .slice b3 6 d3]
  replace bw := bel_trans bw hb4
  replace pA := pA.below hb4
  clear hb4
  have g0 := pA.cell 0
  have g1 := pA.cell 1
  have g2 := pA.cell 2
  have g3 := pA.cell 3
  simp at g0 g1 g2 g3
  go_wp2_with fail
  generalize (w3.alloc (.cells #[.slice b0 3 d0, .slice b1 4 d1, .slice b2 2 d2, .slice b3 6 d3] 105)) = w4 at *
  generalize w3.heap.size = gC at *
  refine (kLA _).mono ?_
  rintro e w5 ⟨rfl, hb⟩
  replace bw := bel_trans bw hb
  replace pC := pC.below hb
  clear hb kLA g0 g1 g2 g3 pA
  have g0 := pC.cell 0
  simp at g0
  go_wp2_with fail
  refine wp_loop_rounds 5 ?_
  rw [rounds_succ]
  go_wp2_with fail
  refine (z0 _ bw).mono ?_
  rintro e w6 ⟨rfl, hb⟩
  replace bw := bel_trans bw hb
  replace pC := pC.below hb
  clear hb g0 z0
  cases x0
  · go_wp2
    go_ret
    exact ⟨rfl, bw⟩
  have g0 := pC.cell 1
  simp at g0
  go_wp2_with fail
  rw [rounds_succ]
  go_wp2_with fail
  refine (z1 _ bw).mono ?_
  rintro e w7 ⟨rfl, hb⟩
  replace bw := bel_trans bw hb
  replace pC := pC.below hb
  clear hb g0 z1
  cases x1
  · go_wp2
    go_ret
    exact ⟨rfl, bw⟩
  have g0 := pC.cell 2
  simp at g0
  go_wp2_with fail
  rw [rounds_succ]
  go_wp2_with fail
  refine (z2 _ bw).mono ?_
  rintro e w8 ⟨rfl, hb⟩
  replace bw := bel_trans bw hb
  replace pC := pC.below hb
  clear hb g0 z2
  cases x2
  · go_wp2
    go_ret
    exact ⟨rfl, bw⟩
  have g0 := pC.cell 3
  simp at g0
  go_wp2_with fail
  rw [rounds_succ]
  go_wp2_with fail
  refine (z3 _ bw).mono ?_
  rintro e w9 ⟨rfl, hb⟩
  replace bw := bel_trans bw hb
  clear hb g0 z3
  cases x3
  · go_wp2
    go_ret
    exact ⟨rfl, bw⟩
  go_wp2_with fail
  rw [rounds_succ]
  go_wp2
  go_ret
  exact ⟨rfl, bw⟩
end Go.Proofs.YtdojjmkpelgcaaaGreatDoor


/-
  What the condition on the table vmShape gives the walks.
-/
namespace Go.Proofs.YtdojjmkpelgcaaaGreatDoor
open Go.RowKit Go.ChangeShapes

theorem gVmShape : Tryz.prog.globalNamed "loop.example/g00632/impl.vmShape" = some 0 := by kernel_rfl
theorem tVmShape : (Tryz.prog.globals[0]?).map (·.type) = some 173 := by kernel_rfl

section
variable {H : Type} {enc : TypeId × Value → H} {w : World} {base : Nat} {spare : Nat → Bool} {held : Bool}
set_option maxRecDepth 100000 in
theorem part_cells {fuel : Nat} {cs : List Value} {a b : Int} {p : List MemPlace} (h : DataW.trod enc Tryz.prog w base spare held fuel 172 cs = some (.agg [.lit (.int .i64 a), .lit (.int .i64 b)], p)) : cs = [.int .i64 a, .int .i64 b] := by
  obtain ⟨y0, y1, n, hx, hl, h0, h1⟩ := trod_struct2 Tryz.underlying172 h
  have hl2 : cs.length = 2 := hl.trans (by kernel_rfl)
  have hk : Tryz.prog.cellsOf 3 = 1 := by kernel_rfl
  match cs, hl2 with
  | [c0, c1], _ =>
    simp only [hk] at h0 h1
    obtain ⟨z0, e0, hy0, _⟩ := DataW.trod_int Tryz.underlying3 h0
    obtain ⟨z1, e1, hy1, _⟩ := DataW.trod_int Tryz.underlying3 h1
    simp at e0 e1
    subst hy0 hy1 e0 e1
    simp at hx
    simp [hx]
set_option maxRecDepth 100000 in
theorem shape_cells {fuel : Nat} {cs : List Value} {p : List MemPlace} (h : DataW.trod enc Tryz.prog w base spare held fuel 173 cs = some (Rows.laid_loop_example_g00632_impl_vmShape, p)) : cs = [3, 6, 4, 9, 2, 3, 6, 9].map (Value.int .i64) := by
  obtain ⟨xs, m, _, hx, hl, hn, hi⟩ := DataW.trod_array Tryz.underlying173 h
  have hk : Tryz.prog.cellsOf 172 = 2 := by kernel_rfl
  have hl8 : cs.length = 8 := hl.trans (by kernel_rfl)
  rw [hk] at hi
  match xs, hn with
  | [⟨x0, p0⟩, ⟨x1, p1⟩, ⟨x2, p2⟩, ⟨x3, p3⟩], _ =>
    unfold Rows.laid_loop_example_g00632_impl_vmShape at hx
    simp at hx
    obtain ⟨⟨rfl, rfl, rfl, rfl⟩, _⟩ := hx
    match cs, hl8 with
    | [c0, c1, c2, c3, c4, c5, c6, c7], _ =>
      have g0 := part_cells (hi 0 (by decide))
      have g1 := part_cells (hi 1 (by decide))
      have g2 := part_cells (hi 2 (by decide))
      have g3 := part_cells (hi 3 (by decide))
      simp at g0 g1 g2 g3
      simp [g0, g1, g2, g3]
end

set_option maxRecDepth 100000 in
theorem vmShape_of_laid {W : World} {p : List (String × DataW Unit)} (hp : p = [("loop.example/g00632/impl.vmShape", Rows.laid_loop_example_g00632_impl_vmShape)]) (h : laidMetH Tryz.prog p W) : VmShape W := by
  subst hp
  rw [MakeChecks.laidMetH_plain _ _ _ (by kernel_rfl)] at h
  obtain ⟨ps, ⟨g0, t0, cs0, f0, p0, q0, hg0, ht0, hv0, hd0, _, _⟩, _, _⟩ := h
  obtain rfl := Option.some.inj (gVmShape.symm.trans hg0)
  obtain rfl := Option.some.inj (tVmShape.symm.trans ht0)
  have hcs := shape_cells hd0
  unfold World.var? at hv0
  simp only [gVmShape, Option.bind_some] at hv0
  cases hh : W.heap[0]? with
  | none => rw [hh] at hv0; cases hv0
  | some o =>
    rw [hh] at hv0
    cases o with
    | cells cs t fr =>
      simp only [Option.some.injEq] at hv0
      subst hv0
      intro i v hi
      rw [← hcs] at hi
      simp only [World.cell?, hh]
      simpa using hi
    | _ => cases hv0
end Go.Proofs.YtdojjmkpelgcaaaGreatDoor


/-
  What the frame tells of a slice that came in holds in every later world that keeps what was there.
-/
namespace Go.Proofs.YtdojjmkpelgcaaaGreatDoor
open Go.RowKit

theorem IsRow.below {k : IntKind} {w w' : World} {a : Option Addr} {len cap : Nat} {zs : List Int} (h : IsRow k w a len cap zs) (hb : Below w.heap.size w w') : IsRow k w' a len cap zs := by
  rcases h with h | ⟨x, h1, h2, h3, h4, h5, h6⟩
  · exact .inl h
  · refine .inr ⟨x, h1, h2, h3, h4, fun i hi => ?_, h6⟩
    have hc := h5 i hi
    have hlt : (x.add i).block < w.heap.size := by
      rcases Nat.lt_or_ge (x.add i).block w.heap.size with h' | h'
      · exact h'
      · simp [World.cell?, Array.getElem?_eq_none h'] at hc
    rw [hb.cell hlt]
    exact hc
theorem IsRow.len_le {k : IntKind} {w : World} {a : Option Addr} {len cap : Nat} {zs : List Int} (h : IsRow k w a len cap zs) : len ≤ maxLen := by
  rcases h with ⟨_, rfl, _, _⟩ | ⟨x, h1, h2, h3, _⟩
  · omega
  · omega
end Go.Proofs.YtdojjmkpelgcaaaGreatDoor


/-
  The named package-level variables read behind a call as they read before it, where nothing that was there has turned.
-/
namespace Go.Proofs.YtdojjmkpelgcaaaGreatDoor
open Go.RowKit

def varsFit (P : Program) (ns : List String) : Bool := ns.all fun n =>
  match P.globalNamed n with
  | some g => match (P.globals[g]?).map (·.type) with
    | some t => P.readableRec t && decide (t < P.types.size)
    | none => false
  | none => false

theorem var?_lt {P : Program} {W : World} {n : String} {g : Nat} {cs : Array Value} (hg : P.globalNamed n = some g) (hv : W.var? P n = some cs) : g < W.heap.size := by
  rcases Nat.lt_or_ge g W.heap.size with h | h
  · exact h
  · unfold World.var? at hv
    simp [hg, Array.getElem?_eq_none h] at hv

theorem vars_below {H : Type} {enc : TypeId × Value → H} {P : Program} {W W' : World} (hl : laidOutB P = true) (bel : Below W.heap.size W W') :
    ∀ {ns : List String} {gs : List (DataW H)} {ps : List MemPlace}, varsFit P ns = true → DataW.TrodVars enc P W (fun _ => true) ns gs ps → DataW.TrodVars enc P W' (fun b => decide (b < W.heap.size)) ns gs ps
  | [], [], ps, _, h => h
  | [], _ :: _, _, _, h => by cases h
  | _ :: _, [], _, _, h => by cases h
  | n :: ns, d :: ds, ps, hf, h => by
    obtain ⟨g, t, cs, fuel, p, q, hg, ht, hv, hd, hr, e⟩ := h
    simp only [varsFit, List.all_cons, Bool.and_eq_true] at hf
    obtain ⟨hf1, hf2⟩ := hf
    rw [hg] at hf1
    simp only [ht, Bool.and_eq_true, decide_eq_true_eq] at hf1
    obtain ⟨fuel', hd'⟩ := Below.trod hl hf1.1 hf1.2 (v := .agg cs) (⟨fuel, by simpa [Value.cells] using hd⟩ : DataW.Trod enc P W 0 (fun _ => true) true t (.agg cs) d p) bel (DataW.trod_lt fuel _ _ _ hd)
    exact ⟨g, t, cs, fuel', p, q, hg, ht, var?_below bel hg (var?_lt hg hv) hv, by simpa [Value.cells] using hd', vars_below hl bel hf2 hr, e⟩

theorem vars_len {H : Type} {enc : TypeId × Value → H} {P : Program} {W : World} {spare : Nat → Bool} : ∀ {ns : List String} {gs : List (DataW H)} {ps : List MemPlace}, DataW.TrodVars enc P W spare ns gs ps → gs.length = ns.length
  | [], [], _, _ => rfl
  | [], _ :: _, _, h => by cases h
  | _ :: _, [], _, h => by cases h
  | _ :: _, _ :: _, _, h => by
    obtain ⟨_, _, _, _, _, _, _, _, _, _, hr, _⟩ := h
    simp [vars_len hr]
end Go.Proofs.YtdojjmkpelgcaaaGreatDoor

