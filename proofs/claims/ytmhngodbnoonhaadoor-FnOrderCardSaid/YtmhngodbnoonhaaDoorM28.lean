/-
  Joined: ClkI, StepPl.
-/
import Derived.Test.YtmhngodbnoonhaaDoorProg
import Derived.WalkKit
import Derived.WalkSpells
import Derived.WalkLawsBesides
import Derived.RegionTactic
import Derived.BigQuiet
import Derived.Deep.QuietTactic
import Derived.Deep.Slices
import Derived.Deep.Strs
import Derived.Deep.Fields
import Derived.ChangeSame
import Derived.ChangeSlices
import Derived.Lib.SmallJoins
import Derived.Handy
import Derived.OwnWalk
import Derived.Shelf.Abstract
import Derived.Deep.RegionHeld3
import Derived.Laws.BytesArg
import Derived.Deep.RegionLaw
import Derived.Laws.OwnMore
import Derived.Laws.CopyOwn
import Derived.Laws.Tables
import Derived.IntWalk
import Derived.BigRegion
import Derived.Maps.AppendAt
import Derived.Deep.MidRow
import Derived.Test.YtmhngodbnoonhaaDoorM01
import Derived.Test.YtmhngodbnoonhaaDoorM05
import Derived.Test.YtmhngodbnoonhaaDoorM07
import Derived.Test.YtmhngodbnoonhaaDoorM08
import Derived.Test.YtmhngodbnoonhaaDoorM20
import Derived.Test.YtmhngodbnoonhaaDoorM21
import Derived.Test.YtmhngodbnoonhaaDoorM22
import Derived.Test.YtmhngodbnoonhaaDoorM27

/-
  The program's clocksOf.
-/
namespace Go.Proofs.YtmhngodbnoonhaaDoor
open Go.RowKit
set_option linter.unusedVariables false
set_option linter.unusedSimpArgs false

theorem info_clock : (Tryd.prog.info? 120).map (fun i => (i.zero, i.size, i.bytes)) = some (some (.agg #[.int .i64 0, .int .i64 0, .int .i64 0]), 3, 24) := by kernel_rfl
def tabC (n : Nat) (c : Nat → Nat → Nat) : List Value := tab (n * 3) fun j => .int .i64 (c (j / 3) (j % 3) : Nat)
theorem at_three {n i t : Nat} (hi : i < n) (ht : t < 3) : i * 3 + t < n * 3 ∧ (i * 3 + t) / 3 = i ∧ (i * 3 + t) % 3 = t := by omega
theorem tabC_get {n i t : Nat} (c : Nat → Nat → Nat) (hi : i < n) (ht : t < 3) : (tabC n c)[i * 3 + t]? = some (.int .i64 (c i t : Nat)) := by
  obtain ⟨h1, h2, h3⟩ := at_three hi ht
  unfold tabC
  rw [tab_get _ h1, h2, h3]
theorem tabC_congr {n : Nat} {c d : Nat → Nat → Nat} (h : ∀ i t, i < n → t < 3 → c i t = d i t) : tabC n c = tabC n d := by
  refine tab_congr (fun j hj => ?_)
  rw [h (j / 3) (j % 3) (by omega) (by omega)]
theorem tabC_set {n i t : Nat} (c : Nat → Nat → Nat) (v : Nat) (hi : i < n) (ht : t < 3) : (tabC n c).set (i * 3 + t) (.int .i64 (v : Nat)) = tabC n (fun k u => if k = i ∧ u = t then v else c k u) := by
  unfold tabC
  rw [tab_set]
  refine tab_congr (fun j hj => ?_)
  by_cases e : j = i * 3 + t
  · subst e
    obtain ⟨_, h2, h3⟩ := at_three hi ht
    rw [if_pos rfl, h2, h3]
    simp only [and_self, if_true]
  · rw [if_neg e]
    have e9 : ¬ (j / 3 = i ∧ j % 3 = t) := by omega
    simp only [if_neg e9]
theorem tabC_set3 {n i : Nat} (c : Nat → Nat → Nat) (f : Nat → Nat) (hi : i < n) : set3 (tabC n c) (i * 3) (.int .i64 (f 0 : Nat)) (.int .i64 (f 1 : Nat)) (.int .i64 (f 2 : Nat)) = tabC n (fun k u => if k = i then f u else c k u) := by
  unfold set3
  have e0 := tabC_set c (f 0) hi (show 0 < 3 by omega)
  rw [Nat.add_zero] at e0
  rw [e0, tabC_set _ (f 1) hi (by omega), tabC_set _ (f 2) hi (by omega)]
  refine tabC_congr (fun k u hk hu => ?_)
  by_cases e : k = i
  · subst e
    match u, hu with
    | 0, _ => simp
    | 1, _ => simp
    | 2, _ => simp
  · simp [e]
theorem clkF_far (D : Nat → Nat → Bool) (th : Nat → Nat) (t : Nat) : ∀ n j, n ≤ j → clkF D th n j t = 0
  | 0, _, _ => rfl
  | n + 1, j, h => by
    show (if j = n then _ else _) = _
    rw [if_neg (by omega)]
    exact clkF_far D th t n j (by omega)
theorem joinN_bound {D : Nat → Nat → Bool} {k t B : Nat} {prev : Nat → Nat → Nat} (h : ∀ j, prev j t ≤ B) : ∀ n, joinN D k prev t n ≤ B
  | 0 => Nat.zero_le _
  | n + 1 => by
    have ih := joinN_bound (D := D) (k := k) h n
    show (if D n k then Nat.max _ _ else _) ≤ B
    split
    · exact Nat.max_le.2 ⟨ih, h n⟩
    · exact ih
theorem clkF_bound (D : Nat → Nat → Bool) (th : Nat → Nat) (t : Nat) : ∀ n j, clkF D th n j t ≤ n
  | 0, _ => Nat.le_refl _
  | n + 1, j => by
    show (if j = n then _ else _) ≤ _
    have ih := clkF_bound D th t n
    split
    · have := joinN_bound (D := D) (k := n) (prev := clkF D th n) ih n
      split <;> omega
    · have := ih j; omega
def ClkGot (e : Ending) (w w' : World) (n : Nat) (c : Nat → Nat → Nat) : Prop := ∃ g, e = .returned (.slice (some ⟨g, 0, none⟩) n n) ∧ Blk w' g 120 (tabC n c) ∧ w.heap.size ≤ g ∧ Below w.heap.size w w'
theorem joinN_next (D : Nat → Nat → Bool) (k : Nat) (prev : Nat → Nat → Nat) (t n : Nat) : joinN D k prev t (n + 1) = if D n k then Nat.max (joinN D k prev t n) (prev n t) else joinN D k prev t n := rfl
theorem clkF_next (D : Nat → Nat → Bool) (th : Nat → Nat) (n j t : Nat) : clkF D th (n + 1) j t = if j = n then joinN D n (clkF D th n) t n + (if t = th n then 1 else 0) else clkF D th n j t := rfl
def onC (D : Nat → Nat → Bool) (th : Nat → Nat) (i j k t : Nat) : Nat := if k = i then joinN D i (clkF D th i) t j else clkF D th i k t
theorem ev_range {w0 w : World} {a : Option Addr} {n : Nat} {es : List I4} (h : Evs w0 a n es) (hb : Below w0.heap.size w0 w) {k : Nat} (hk : k < n) : ∃ ge, a = some ⟨ge, 0, none⟩ ∧ ge < w0.heap.size ∧ w.rangeAt ge (k * 4) [.int .i64 (evAt es k).1, .int .i64 (evAt es k).2.1, .int .i64 (evAt es k).2.2.1, .int .i64 (evAt es k).2.2.2] := by
  obtain ⟨ge, e, hg, c0, c1, c2, c3⟩ := ev_cells h hb hk
  refine ⟨ge, e, hg, fun j v hj => ?_⟩
  match j, hj with
  | 0, hj => simp at hj; rw [← hj]; exact c0
  | 1, hj => simp at hj; rw [← hj]; exact c1
  | 2, hj => simp at hj; rw [← hj]; exact c2
  | 3, hj => simp at hj; rw [← hj]; exact c3
  | j + 4, hj => simp at hj

set_option maxHeartbeats 2000000 in
set_option maxRecDepth 100000 in
theorem clocksOf_is (a : Option Addr) (n c : Nat) (es : List I4) (w : World) (h : Evs w a n es) (hn : n ≤ 4096) (hnc : n ≤ c) (hI : inThree es) :
    Calls Tryd.prog 81 #[.slice a n c] w fun e w' => ClkGot e w w' n (clk (depE es) (thE es)) := by
  obtain ⟨i0, hi9, hz0, hz1, hz2⟩ := info_parts info_clock
  unfold ClkGot
  obtain ⟨D, hD⟩ : ∃ D, D = depE es := ⟨_, rfl⟩
  obtain ⟨th, hT⟩ : ∃ th, th = thE es := ⟨_, rfl⟩
  rw [← hD, ← hT]
  have HD : Hid (D = depE es ∧ th = thE es) := ⟨hD, hT⟩
  clear hD hT
  go_enter Tryd.func81, Tryd.ntmps81
  go_wp2_with (at_make; refine wpList_make_full _ rfl _ _ 117 rfl w.heap.size 120 i0 (.agg #[.int .i64 0, .int .i64 0, .int .i64 0]) 3 Tryd.underlying117 hi9 hz0 hz1 _ _ _ _ n rfl rfl rfl rfl ?b2 ?b3 ?b4 ?_)
  case b2 => rw [hz2]; omega
  case b3 => unfold maxLen; omega
  case b4 => exact Nat.le_refl _
  intro w1 hown hgrow
  rw [made_tab3] at hown
  have bw : Below w.heap.size w w1 := ⟨hgrow.os, hgrow.tape, hgrow.output, hgrow.size, fun k hk => hgrow.block k hk (by simp)⟩
  have pT : Hid (Blk w1 w.heap.size 120 (tabC n (clkF D th 0))) := (blk_of_full hown).1
  clear hown hgrow
  obtain ⟨g, hg⟩ : ∃ g, g = w.heap.size := ⟨_, rfl⟩
  have hgw : w.heap.size ≤ g := by omega
  rw [← hg] at pT ⊢
  clear hg
  go_wp2_with fail
  go_loopw [13] (fun sk wr => ∃ i : Nat, i ≤ n ∧ sk = .int .i64 i ∧ Hid (Blk wr g 120 (tabC n (clkF D th i))) ∧ Below w.heap.size w wr) (fun sk _ => n - (intOf sk).toNat)
  case atStart => exact ⟨0, by omega, rfl, pT, bw⟩
  case round =>
    clear pT bw
    obtain ⟨i, hi, rfl, pT, bw⟩ := hrel
    by_cases hin : i < n
    · have hin' : (i : Int) < (n : Int) := by omega
      have hi0 : (0 : Int) ≤ (i : Int) := by omega
      obtain ⟨ge, rfl, hgl, hrg⟩ := ev_range h bw hin
      have hDi : ∀ j, D j i = depM (evAt es j) (evAt es i) := fun j => by rw [HD.out.1]; rfl
      have hti : (th i : Int) = (evAt es i).1 := by rw [HD.out.2]; exact thE_int hI i
      have ht3 : th i < 3 := by rw [HD.out.2]; exact thE_three hI i
      generalize evAt es i = x at hrg hDi hti
      obtain ⟨x0, x1, x2, x3⟩ := x
      simp only at hrg hti
      have pN := Blk.new wr 107 [.int .i64 0, .int .i64 0, .int .i64 0, .int .i64 0]
      have ha : Below wr.heap.size wr (wr.alloc (.cells #[.int .i64 0, .int .i64 0, .int .i64 0, .int .i64 0] 107)) := by go_grown
      go_wp2_with (first | refine wpList_load_mid rfl 107 _ rfl ge (i * 4) rfl [.int .i64 x0, .int .i64 x1, .int .i64 x2, .int .i64 x3] _ hrg Tryd.underlying107 rfl (by kernel_rfl) ?_ | refine wpList_store_blk rfl 107 _ _ rfl wr.heap.size [.int .i64 x0, .int .i64 x1, .int .i64 x2, .int .i64 x3] rfl rfl pN (by kernel_rfl) rfl rfl ?_)
      intro W pX g1
      have hgr := pT.out.lt
      have pT1 : Hid (Blk W g 120 (tabC n (onC D th i 0))) := by
        have e : tabC n (onC D th i 0) = tabC n (clkF D th i) := tabC_congr (fun k t _ _ => by
          unfold onC
          split
          · rename_i e; subst e; rw [clkF_far D th t k k (Nat.le_refl _)]; rfl
          · rfl)
        unfold Hid
        rw [e]
        exact (pT.out.below ha).kept g1 (by simp; omega)
      have bw1 := (bel_trans bw ha).grown g1 (Nat.le_trans bw.size ha.size) (fun k e => by cases e; exact bw.size)
      have hgX : wr.heap.size < W.heap.size := pX.out.lt
      have hgg : g < wr.heap.size := hgr
      have hwg := bw.size
      clear pN ha g1 hrg pT bw hgr
      generalize wr.heap.size = gX at *
      have hic : i ≤ c := by omega
      have hc0 : ¬ c = 0 := by omega
      go_wp2_with fail
      go_loopw [22] (fun sj wr => ∃ j : Nat, j ≤ i ∧ sj = .int .i64 j ∧ Hid (Blk wr g 120 (tabC n (onC D th i j))) ∧ Hid (Blk wr gX 107 [.int .i64 x0, .int .i64 x1, .int .i64 x2, .int .i64 x3]) ∧ Below w.heap.size w wr) (fun sj _ => i - (intOf sj).toNat)
      case atStart => exact ⟨0, by omega, rfl, pT1, pX, bw1⟩
      case round =>
        clear pT1 bw1 pX hgX
        obtain ⟨j, hj, rfl, pT, pX, bw⟩ := hrel
        by_cases hji : j < i
        · have hji' : (j : Int) < (i : Int) := by omega
          have hj0 : (0 : Int) ≤ (j : Int) := by omega
          have hjn' : (j : Int) < (n : Int) := by omega
          obtain ⟨ge', hge', _, hrg⟩ := ev_range h bw (show j < n by omega)
          cases hge'
          have hDj := hDi j
          generalize evAt es j = y at hrg hDj
          obtain ⟨y0, y1, y2, y3⟩ := y
          simp only at hrg
          have pN := Blk.new wr 107 [.int .i64 0, .int .i64 0, .int .i64 0, .int .i64 0]
          have ha : Below wr.heap.size wr (wr.alloc (.cells #[.int .i64 0, .int .i64 0, .int .i64 0, .int .i64 0] 107)) := by go_grown
          go_wp2_with (first | refine wpList_load_mid rfl 107 _ rfl ge (j * 4) rfl [.int .i64 y0, .int .i64 y1, .int .i64 y2, .int .i64 y3] _ hrg Tryd.underlying107 rfl (by kernel_rfl) ?_ | refine wpList_store_blk rfl 107 _ _ rfl wr.heap.size [.int .i64 y0, .int .i64 y1, .int .i64 y2, .int .i64 y3] rfl rfl pN (by kernel_rfl) rfl rfl ?_)
          intro W pY g1
          have hgr := pT.out.lt
          have hxr := pX.out.lt
          have pT1 : Hid (Blk W g 120 (tabC n (onC D th i j))) := (pT.out.below ha).kept g1 (by simp; omega)
          have pX1 := (pX.out.below ha).kept g1 (by simp; omega)
          have bw1 := (bel_trans bw ha).grown g1 (Nat.le_trans bw.size ha.size) (fun k e => by cases e; exact bw.size)
          have pY1 := pY.out
          clear pN ha g1 hrg pT bw pX pY hgr hxr
          generalize wr.heap.size = gY at *
          go_wp2_with (first | refine wpList_load_blk rfl 107 _ rfl gY rfl pY1 _ Tryd.underlying107 rfl (by kernel_rfl) ?_ | refine wpList_load_blk rfl 107 _ rfl gX rfl pX1 _ Tryd.underlying107 rfl (by kernel_rfl) ?_)
          refine (implDepends_is (y0, y1, y2, y3) (x0, x1, x2, x3) _).mono ?_
          rintro e w2 ⟨rfl, hb⟩
          rw [← hDj]
          have pT2 : Hid (Blk w2 g 120 (tabC n (onC D th i j))) := pT1.out.below hb
          have pX2 : Hid (Blk w2 gX 107 [.int .i64 x0, .int .i64 x1, .int .i64 x2, .int .i64 x3]) := pX1.below hb
          have bw2 := bel_trans bw1 hb
          clear pT1 pX1 pY1 hb bw1 hDj
          cases hd : D j i
          · have pT3 : Hid (Blk w2 g 120 (tabC n (onC D th i (j + 1)))) := by
              have e : tabC n (onC D th i (j + 1)) = tabC n (onC D th i j) := tabC_congr (fun k t _ _ => by
                unfold onC
                rw [joinN_next, hd]
                rfl)
              unfold Hid
              rw [e]
              exact pT2.out
            clear pT2 hd
            go_wp2
            go_roundw
            case rel => exact ⟨j + 1, by omega, by go_num, pT3, pX2, bw2⟩
            case measure => simp [intOf]; omega
          · have c0 := (pT2.out.cell (j * 3)).trans (tabC_get (t := 0) (onC D th i j) (show j < n by omega) (by omega))
            have c1 := (pT2.out.cell (j * 3 + 1)).trans (tabC_get (t := 1) (onC D th i j) (show j < n by omega) (by omega))
            have c2 := (pT2.out.cell (j * 3 + 2)).trans (tabC_get (t := 2) (onC D th i j) (show j < n by omega) (by omega))
            have kJ := join_is (w := w2.drew) (off := i * 3) pT2.out (onC D th i j i) (onC D th i j j) (tabC_get (t := 0) _ hin (by omega)) (tabC_get (t := 1) _ hin (by omega)) (tabC_get (t := 2) _ hin (by omega))
            rw [tabC_set3 (onC D th i j) (fun t => max (onC D th i j i t) (onC D th i j j t)) hin] at kJ
            have eJ : tabC n (fun k u => if k = i then max (onC D th i j i u) (onC D th i j j u) else onC D th i j k u) = tabC n (onC D th i (j + 1)) := tabC_congr (fun k t _ _ => by
              unfold onC
              rw [joinN_next, hd]
              have ne : ¬ j = i := by omega
              by_cases e : k = i
              · simp only [e, if_true, if_neg ne]
              · simp only [if_neg e])
            rw [eJ] at kJ
            unfold ck at kJ
            clear eJ
            have kJ2 := kJ.mono (R' := fun e w' => e = .returned (.tuple #[]) ∧ Blk w' g 120 (tabC n (onC D th i (j + 1))) ∧ w2.drew.grownBy w' (some g) ∧ w'.cell? ⟨g, j * 3, none⟩ = some (.int .i64 (onC D th i j j 0 : Nat)) ∧ w'.cell? ⟨g, j * 3 + 1, none⟩ = some (.int .i64 (onC D th i j j 1 : Nat)) ∧ w'.cell? ⟨g, j * 3 + 2, none⟩ = some (.int .i64 (onC D th i j j 2 : Nat))) (by
              rintro e w' ⟨h1, h2, h3⟩
              have eZ : ∀ t, onC D th i (j + 1) j t = onC D th i j j t := fun t => by
                unfold onC
                rw [if_neg (show ¬ j = i by omega), if_neg (show ¬ j = i by omega)]
              have d0 := (h2.cell (j * 3)).trans (tabC_get (t := 0) _ (show j < n by omega) (by omega))
              have d1 := (h2.cell (j * 3 + 1)).trans (tabC_get (t := 1) _ (show j < n by omega) (by omega))
              have d2 := (h2.cell (j * 3 + 2)).trans (tabC_get (t := 2) _ (show j < n by omega) (by omega))
              rw [eZ] at d0 d1 d2
              exact ⟨h1, h2, h3, d0, d1, d2⟩)
            clear kJ
            generalize onC D th i j j 0 = z0 at *
            generalize onC D th i j j 1 = z1 at *
            generalize onC D th i j j 2 = z2 at *
            clear hd
            go_wp2_with fail
            go_region_held3 (fun w' => w'.cell? ⟨g, j * 3, none⟩ = some (.int .i64 z0) ∧ w'.cell? ⟨g, j * 3 + 1, none⟩ = some (.int .i64 z1) ∧ w'.cell? ⟨g, j * 3 + 2, none⟩ = some (.int .i64 z2)) (first | (exact ⟨c0, c1, c2⟩) | (exact ⟨d0, d1, d2⟩) | go_keep)
              (first | (go_at_call 119; refine kJ2.mono ?_; rintro e w3 ⟨rfl, pJ, gJ, d0, d1, d2⟩))
            clear kJ2 c0 c1 c2 d0 d1 d2
            have pX3 : Hid (Blk w3 gX 107 [.int .i64 x0, .int .i64 x1, .int .i64 x2, .int .i64 x3]) := pX2.out.drew.kept gJ (by simp; omega)
            have bw3 : Below w.heap.size w w3 := (bel_trans bw2 (by go_grown)).grown gJ bw2.size (fun k e => by cases e; exact hgw)
            have pT3 : Hid (Blk w3 g 120 (tabC n (onC D th i (j + 1)))) := pJ
            clear pX2 bw2 pT2 gJ pJ
            go_wp2
            go_roundw
            case rel => exact ⟨j + 1, by omega, by go_num, pT3, pX3, bw3⟩
            case measure => simp [intOf]; omega
        · obtain rfl : j = i := by omega
          subst hti
          clear hDi hic hc0
          obtain ⟨t, ht⟩ : ∃ t, t = th j := ⟨_, rfl⟩
          have HTt : Hid (t = th j) := ht
          rw [← ht] at ht3 pX
          clear ht
          have cX := pX.out.cell 0
          simp only [List.getElem?_cons_zero] at cX
          have c0 := (pT.out.cell (j * 3 + t)).trans (tabC_get _ hin ht3)
          have f0 := pT.out.frozen (j * 3 + t)
          have eV : onC D th j j j t = joinN D j (clkF D th j) t j := by unfold onC; rw [if_pos rfl]
          rw [eV] at c0
          have hvb := joinN_bound (D := D) (k := j) (prev := clkF D th j) (t := t) (fun q => clkF_bound D th t j q) j
          have pT2 := pT.out.set (j * 3 + t) (.int .i64 (joinN D j (clkF D th j) t j + 1 : Nat))
          rw [tabC_set _ _ hin ht3] at pT2
          have e2 : tabC n (fun k u => if k = j ∧ u = t then joinN D j (clkF D th j) t j + 1 else onC D th j j k u) = tabC n (clkF D th (j + 1)) := tabC_congr (fun k u _ _ => by
            rw [clkF_next]
            unfold onC
            by_cases e : k = j
            · simp only [e, true_and, if_true]
              by_cases e' : u = t
              · subst e'
                rw [if_pos rfl, if_pos HTt.out]
              · rw [if_neg e', if_neg (fun q => e' (q.trans HTt.out.symm)), Nat.add_zero]
            · simp only [e, false_and, if_false])
          rw [e2] at pT2
          clear e2 eV pT
          generalize joinN D j (clkF D th j) t j = v at *
          have hw9 : IntKind.i64.wrap ((v : Int) + 1) = ((v + 1 : Nat) : Int) := by
            rw [IntWalk.i64_in _ ⟨by omega, by omega⟩]
            omega
          have ht9 : (t : Int) < 3 := by omega
          have ht8 : (0 : Int) ≤ (t : Int) := by omega
          clear pX
          go_wp2_with fail
          go_region
          have pT3 : Hid (Blk ((wr.setCell ⟨g, j * 3 + t, none⟩ (.int .i64 (v + 1 : Nat))).drew) g 120 (tabC n (clkF D th (j + 1)))) := pT2
          have bw3 : Below w.heap.size w ((wr.setCell ⟨g, j * 3 + t, none⟩ (.int .i64 (v + 1 : Nat))).drew) := bel_trans (bw.setCell hgw _) (by go_grown)
          clear pT2 bw hw9 c0 f0 cX
          go_wp2
          go_roundw
          case rel => exact ⟨j + 1, by omega, by go_num, pT3, bw3⟩
          case measure => simp [intOf]; omega
    · obtain rfl : i = n := by omega
      have pT2 : Blk wr g 120 (tabC i (clk D th)) := by
        have e : tabC i (clk D th) = tabC i (clkF D th i) := tabC_congr (fun k t hk _ => (clkF_clk D th k t i hk).symm)
        rw [e]
        exact pT.out
      clear pT
      go_wp2
      go_ret
      exact ⟨g, rfl, pT2, hgw, bw⟩
end Go.Proofs.YtmhngodbnoonhaaDoor


/-
  What a step turns, in plain words: one of the shared places and locks at most; no other thread's place; its own place grows; who can is who is enabled.
-/
namespace Go.Proofs.YtmhngodbnoonhaaDoor
open Go.RowKit
set_option linter.unusedVariables false

theorem mem_enab {rows : List (List I3)} {m : V4} {k : Nat} : ∀ n, ((k : Int) ∈ enabM rows m n) ↔ k < n ∧ canM rows m k = true
  | 0 => by simp [enabM]
  | n + 1 => by
    have ih := mem_enab (rows := rows) (m := m) (k := k) n
    unfold enabM
    split
    · rename_i h
      simp only [List.mem_append, List.mem_singleton, ih]
      constructor
      · rintro (⟨h1, h2⟩ | h1)
        · exact ⟨by omega, h2⟩
        · obtain rfl : k = n := by omega
          exact ⟨by omega, h⟩
      · rintro ⟨h1, h2⟩
        by_cases e : k = n
        · exact .inr (by omega)
        · exact .inl ⟨by omega, h2⟩
    · rename_i h
      rw [ih]
      constructor
      · rintro ⟨h1, h2⟩
        exact ⟨by omega, h2⟩
      · rintro ⟨h1, h2⟩
        refine ⟨?_, h2⟩
        by_cases e : k = n
        · subst e
          exact absurd h2 h
        · omega
theorem enab_at {rows : List (List I3)} {m : V4} {i : Nat} (hi : i < (enabM rows m 3).length) : ∃ k : Nat, (enabM rows m 3).getD i 0 = k ∧ k < 3 ∧ canM rows m k = true := by
  have hm : (enabM rows m 3)[i] ∈ enabM rows m 3 := List.getElem_mem hi
  have hall : ∀ n, ∀ z ∈ enabM rows m n, ∃ k : Nat, z = k := by
    intro n
    induction n with
    | zero => intro z hz; simp [enabM] at hz
    | succ n ih =>
      intro z hz
      unfold enabM at hz
      split at hz
      · rcases List.mem_append.1 hz with h | h
        · exact ih z h
        · exact ⟨n, by simpa using h⟩
      · exact ih z hz
  obtain ⟨k, hk⟩ := hall 3 _ hm
  rw [hk] at hm
  obtain ⟨h1, h2⟩ := (mem_enab 3).1 hm
  refine ⟨k, ?_, h1, h2⟩
  rw [List.getD, List.getElem?_eq_getElem hi, Option.getD_some, hk]
end Go.Proofs.YtmhngodbnoonhaaDoor

