/-
  Joined: ClkI, LstI, EvA, EvC, EvD, EvE, EvF, CmtP, CmtQ, NorI, SmL.
-/
import Derived.Test.YtmhngodbnoonhaaGreatDoorK48
import Derived.Deep.MidRow
import Derived.Deep.RegionHeld3
import Derived.Test.YtmhngodbnoonhaaGreatDoorK10
import Derived.Test.YtmhngodbnoonhaaGreatDoorK11
import Derived.Test.YtmhngodbnoonhaaGreatDoorK35
import Derived.Test.YtmhngodbnoonhaaGreatDoorK26
import Derived.Test.YtmhngodbnoonhaaGreatDoorK23
import Derived.BigQuiet
import Derived.BigRegion
import Derived.Test.YtmhngodbnoonhaaGreatDoorK42
import Derived.Test.YtmhngodbnoonhaaGreatDoorK16
import Derived.Test.YtmhngodbnoonhaaGreatDoorK46
import Derived.Test.YtmhngodbnoonhaaGreatDoorK27
import Derived.Test.YtmhngodbnoonhaaGreatDoorK01

/-
  The program's clocksOf.
-/
namespace Go.Proofs.YtmhngodbnoonhaaGreatDoor
open Go.RowKit
set_option linter.unusedVariables false
set_option linter.unusedSimpArgs false

theorem info_clock : (Tryz.prog.info? 87).map (fun i => (i.zero, i.size, i.bytes)) = some (some (.agg #[.int .i64 0, .int .i64 0, .int .i64 0]), 3, 24) := by kernel_rfl
/-- Clocks in a row. -/
def tabC (n : Nat) (c : Nat → Nat → Nat) : List Value := tab (n * 3) fun j => .int .i64 (c (j / 3) (j % 3) : Nat)
theorem at_three {n i t : Nat} (hi : i < n) (ht : t < 3) : i * 3 + t < n * 3 ∧ (i * 3 + t) / 3 = i ∧ (i * 3 + t) % 3 = t := by omega
theorem tabC_len (n : Nat) (c : Nat → Nat → Nat) : (tabC n c).length = n * 3 := tab_len _ _
theorem tabC_get {n i t : Nat} (c : Nat → Nat → Nat) (hi : i < n) (ht : t < 3) : (tabC n c)[i * 3 + t]? = some (.int .i64 (c i t : Nat)) := by
  obtain ⟨h1, h2, h3⟩ := at_three hi ht
  unfold tabC
  rw [tab_get _ h1, h2, h3]
theorem tabC_congr {n : Nat} {c d : Nat → Nat → Nat} (h : ∀ i t, i < n → t < 3 → c i t = d i t) : tabC n c = tabC n d := by
  refine tab_congr (fun j hj => ?_)
  rw [h (j / 3) (j % 3) (by omega) (by omega)]
theorem tabC_set {n i t : Nat} (c : Nat → Nat → Nat) (v : Nat) (hi : i < n) (ht : t < 3) : (tabC n c).set (i * 3 + t) (.int .i64 (v : Nat)) = tabC n (fun k u => if k = i ∧ u = t then v else c k u) := by
  unfold tabC
  rw [tab_set]
  refine tab_congr (fun j hj => ?_)
  by_cases e : j = i * 3 + t
  · subst e
    obtain ⟨_, h2, h3⟩ := at_three hi ht
    rw [if_pos rfl, h2, h3]
    simp only [and_self, if_true]
  · rw [if_neg e]
    have e9 : ¬ (j / 3 = i ∧ j % 3 = t) := by omega
    simp only [if_neg e9]
theorem tabC_set3 {n i : Nat} (c : Nat → Nat → Nat) (f : Nat → Nat) (hi : i < n) : set3 (tabC n c) (i * 3) (.int .i64 (f 0 : Nat)) (.int .i64 (f 1 : Nat)) (.int .i64 (f 2 : Nat)) = tabC n (fun k u => if k = i then f u else c k u) := by
  unfold set3
  have e0 := tabC_set c (f 0) hi (show 0 < 3 by omega)
  rw [Nat.add_zero] at e0
  rw [e0, tabC_set _ (f 1) hi (by omega), tabC_set _ (f 2) hi (by omega)]
  refine tabC_congr (fun k u hk hu => ?_)
  by_cases e : k = i
  · subst e
    match u, hu with
    | 0, _ => simp
    | 1, _ => simp
    | 2, _ => simp
  · simp [e]
theorem clkF_far (D : Nat → Nat → Bool) (th : Nat → Nat) (t : Nat) : ∀ n j, n ≤ j → clkF D th n j t = 0
  | 0, _, _ => rfl
  | n + 1, j, h => by
    show (if j = n then _ else _) = _
    rw [if_neg (by omega)]
    exact clkF_far D th t n j (by omega)
theorem joinN_bound {D : Nat → Nat → Bool} {k t B : Nat} {prev : Nat → Nat → Nat} (h : ∀ j, prev j t ≤ B) : ∀ n, joinN D k prev t n ≤ B
  | 0 => Nat.zero_le _
  | n + 1 => by
    have ih := joinN_bound (D := D) (k := k) h n
    show (if D n k then Nat.max _ _ else _) ≤ B
    split
    · exact Nat.max_le.2 ⟨ih, h n⟩
    · exact ih
theorem clkF_bound (D : Nat → Nat → Bool) (th : Nat → Nat) (t : Nat) : ∀ n j, clkF D th n j t ≤ n
  | 0, _ => Nat.le_refl _
  | n + 1, j => by
    show (if j = n then _ else _) ≤ _
    have ih := clkF_bound D th t n
    split
    · have := joinN_bound (D := D) (k := n) (prev := clkF D th n) ih n
      split <;> omega
    · have := ih j; omega
/-- A row of clocks that was made. -/
def ClkGot (e : Ending) (w w' : World) (n : Nat) (c : Nat → Nat → Nat) : Prop := ∃ g, e = .returned (.slice (some ⟨g, 0, none⟩) n n) ∧ Blk w' g 87 (tabC n c) ∧ w.heap.size ≤ g ∧ Below w.heap.size w w'
theorem joinN_next (D : Nat → Nat → Bool) (k : Nat) (prev : Nat → Nat → Nat) (t n : Nat) : joinN D k prev t (n + 1) = if D n k then Nat.max (joinN D k prev t n) (prev n t) else joinN D k prev t n := rfl
theorem clkF_next (D : Nat → Nat → Bool) (th : Nat → Nat) (n j t : Nat) : clkF D th (n + 1) j t = if j = n then joinN D n (clkF D th n) t n + (if t = th n then 1 else 0) else clkF D th n j t := rfl
/-- Row i under way. -/
def onC (D : Nat → Nat → Bool) (th : Nat → Nat) (i j k t : Nat) : Nat := if k = i then joinN D i (clkF D th i) t j else clkF D th i k t
theorem ev_range {w0 w : World} {a : Option Addr} {n : Nat} {es : List I4} (h : Evs w0 a n es) (hb : Below w0.heap.size w0 w) {k : Nat} (hk : k < n) : ∃ ge, a = some ⟨ge, 0, none⟩ ∧ ge < w0.heap.size ∧ w.rangeAt ge (k * 4) [.int .i64 (evAt es k).1, .int .i64 (evAt es k).2.1, .int .i64 (evAt es k).2.2.1, .int .i64 (evAt es k).2.2.2] := by
  obtain ⟨ge, e, hg, c0, c1, c2, c3⟩ := ev_cells h hb hk
  refine ⟨ge, e, hg, fun j v hj => ?_⟩
  match j, hj with
  | 0, hj => simp at hj; rw [← hj]; exact c0
  | 1, hj => simp at hj; rw [← hj]; exact c1
  | 2, hj => simp at hj; rw [← hj]; exact c2
  | 3, hj => simp at hj; rw [← hj]; exact c3
  | j + 4, hj => simp at hj

set_option maxHeartbeats 2000000 in
set_option maxRecDepth 100000 in
theorem clocksOf_is (a : Option Addr) (n c : Nat) (es : List I4) (w : World) (h : Evs w a n es) (hn : n ≤ 4096) (hnc : n ≤ c) (hI : inThree es) :
    Calls Tryz.prog 45 #[.slice a n c] w fun e w' => ClkGot e w w' n (clk (depE es) (thE es)) := by
  obtain ⟨i0, hi9, hz0, hz1, hz2⟩ := info_parts info_clock
  unfold ClkGot
  obtain ⟨D, hD⟩ : ∃ D, D = depE es := ⟨_, rfl⟩
  obtain ⟨th, hT⟩ : ∃ th, th = thE es := ⟨_, rfl⟩
  rw [← hD, ← hT]
  have HD : Hid (D = depE es ∧ th = thE es) := ⟨hD, hT⟩
  clear hD hT
  go_enter Tryz.func45, Tryz.ntmps45
  go_wp2_with (at_make; refine wpList_make_full _ rfl _ _ 84 rfl w.heap.size 87 i0 (.agg #[.int .i64 0, .int .i64 0, .int .i64 0]) 3 Tryz.underlying84 hi9 hz0 hz1 _ _ _ _ n rfl rfl rfl rfl ?b2 ?b3 ?b4 ?_)
  case b2 => rw [hz2]; omega
  case b3 => unfold maxLen; omega
  case b4 => exact Nat.le_refl _
  intro w1 hown hgrow
  rw [made_tab3] at hown
  have bw : Below w.heap.size w w1 := ⟨hgrow.os, hgrow.tape, hgrow.output, hgrow.size, fun k hk => hgrow.block k hk (by simp)⟩
  have pT : Hid (Blk w1 w.heap.size 87 (tabC n (clkF D th 0))) := (blk_of_full hown).1
  clear hown hgrow
  obtain ⟨g, hg⟩ : ∃ g, g = w.heap.size := ⟨_, rfl⟩
  have hgw : w.heap.size ≤ g := by omega
  rw [← hg] at pT ⊢
  clear hg
  go_wp2_with fail
  go_loopw [13] (fun sk wr => ∃ i : Nat, i ≤ n ∧ sk = .int .i64 i ∧ Hid (Blk wr g 87 (tabC n (clkF D th i))) ∧ Below w.heap.size w wr) (fun sk _ => n - (intOf sk).toNat)
  case atStart => exact ⟨0, by omega, rfl, pT, bw⟩
  case round =>
    clear pT bw
    obtain ⟨i, hi, rfl, pT, bw⟩ := hrel
    by_cases hin : i < n
    · have hin' : (i : Int) < (n : Int) := by omega
      have hi0 : (0 : Int) ≤ (i : Int) := by omega
      obtain ⟨ge, rfl, hgl, hrg⟩ := ev_range h bw hin
      have hDi : ∀ j, D j i = depM (evAt es j) (evAt es i) := fun j => by rw [HD.out.1]; rfl
      have hti : (th i : Int) = (evAt es i).1 := by rw [HD.out.2]; exact thE_int hI i
      have ht3 : th i < 3 := by rw [HD.out.2]; exact thE_three hI i
      generalize evAt es i = x at hrg hDi hti
      obtain ⟨x0, x1, x2, x3⟩ := x
      simp only at hrg hti
      have pN := Blk.new wr 38 [.int .i64 0, .int .i64 0, .int .i64 0, .int .i64 0]
      have ha : Below wr.heap.size wr (wr.alloc (.cells #[.int .i64 0, .int .i64 0, .int .i64 0, .int .i64 0] 38)) := by go_grown
      go_wp2_with (first | refine wpList_load_mid rfl 38 _ rfl ge (i * 4) rfl [.int .i64 x0, .int .i64 x1, .int .i64 x2, .int .i64 x3] _ hrg Tryz.underlying38 rfl (by kernel_rfl) ?_ | refine wpList_store_blk rfl 38 _ _ rfl wr.heap.size [.int .i64 x0, .int .i64 x1, .int .i64 x2, .int .i64 x3] rfl rfl pN (by kernel_rfl) rfl rfl ?_)
      intro W pX g1
      have hgr := pT.out.lt
      have pT1 : Hid (Blk W g 87 (tabC n (onC D th i 0))) := by
        have e : tabC n (onC D th i 0) = tabC n (clkF D th i) := tabC_congr (fun k t _ _ => by
          unfold onC
          split
          · rename_i e; subst e; rw [clkF_far D th t k k (Nat.le_refl _)]; rfl
          · rfl)
        unfold Hid
        rw [e]
        exact (pT.out.below ha).kept g1 (by simp; omega)
      have bw1 := (bel_trans bw ha).grown g1 (Nat.le_trans bw.size ha.size) (fun k e => by cases e; exact bw.size)
      have hgX : wr.heap.size < W.heap.size := pX.out.lt
      have hgg : g < wr.heap.size := hgr
      have hwg := bw.size
      clear pN ha g1 hrg pT bw hgr
      generalize wr.heap.size = gX at *
      have hic : i ≤ c := by omega
      have hc0 : ¬ c = 0 := by omega
      go_wp2_with fail
      go_loopw [22] (fun sj wr => ∃ j : Nat, j ≤ i ∧ sj = .int .i64 j ∧ Hid (Blk wr g 87 (tabC n (onC D th i j))) ∧ Hid (Blk wr gX 38 [.int .i64 x0, .int .i64 x1, .int .i64 x2, .int .i64 x3]) ∧ Below w.heap.size w wr) (fun sj _ => i - (intOf sj).toNat)
      case atStart => exact ⟨0, by omega, rfl, pT1, pX, bw1⟩
      case round =>
        clear pT1 bw1 pX hgX
        obtain ⟨j, hj, rfl, pT, pX, bw⟩ := hrel
        by_cases hji : j < i
        · have hji' : (j : Int) < (i : Int) := by omega
          have hj0 : (0 : Int) ≤ (j : Int) := by omega
          have hjn' : (j : Int) < (n : Int) := by omega
          obtain ⟨ge', hge', _, hrg⟩ := ev_range h bw (show j < n by omega)
          cases hge'
          have hDj := hDi j
          generalize evAt es j = y at hrg hDj
          obtain ⟨y0, y1, y2, y3⟩ := y
          simp only at hrg
          have pN := Blk.new wr 38 [.int .i64 0, .int .i64 0, .int .i64 0, .int .i64 0]
          have ha : Below wr.heap.size wr (wr.alloc (.cells #[.int .i64 0, .int .i64 0, .int .i64 0, .int .i64 0] 38)) := by go_grown
          go_wp2_with (first | refine wpList_load_mid rfl 38 _ rfl ge (j * 4) rfl [.int .i64 y0, .int .i64 y1, .int .i64 y2, .int .i64 y3] _ hrg Tryz.underlying38 rfl (by kernel_rfl) ?_ | refine wpList_store_blk rfl 38 _ _ rfl wr.heap.size [.int .i64 y0, .int .i64 y1, .int .i64 y2, .int .i64 y3] rfl rfl pN (by kernel_rfl) rfl rfl ?_)
          intro W pY g1
          have hgr := pT.out.lt
          have hxr := pX.out.lt
          have pT1 : Hid (Blk W g 87 (tabC n (onC D th i j))) := (pT.out.below ha).kept g1 (by simp; omega)
          have pX1 := (pX.out.below ha).kept g1 (by simp; omega)
          have bw1 := (bel_trans bw ha).grown g1 (Nat.le_trans bw.size ha.size) (fun k e => by cases e; exact bw.size)
          have pY1 := pY.out
          clear pN ha g1 hrg pT bw pX pY hgr hxr
          generalize wr.heap.size = gY at *
          go_wp2_with (first | refine wpList_load_blk rfl 38 _ rfl gY rfl pY1 _ Tryz.underlying38 rfl (by kernel_rfl) ?_ | refine wpList_load_blk rfl 38 _ rfl gX rfl pX1 _ Tryz.underlying38 rfl (by kernel_rfl) ?_)
          refine (implDepends_is (y0, y1, y2, y3) (x0, x1, x2, x3) _).mono ?_
          rintro e w2 ⟨rfl, hb⟩
          rw [← hDj]
          have pT2 : Hid (Blk w2 g 87 (tabC n (onC D th i j))) := pT1.out.below hb
          have pX2 : Hid (Blk w2 gX 38 [.int .i64 x0, .int .i64 x1, .int .i64 x2, .int .i64 x3]) := pX1.below hb
          have bw2 := bel_trans bw1 hb
          clear pT1 pX1 pY1 hb bw1 hDj
          cases hd : D j i
          · have pT3 : Hid (Blk w2 g 87 (tabC n (onC D th i (j + 1)))) := by
              have e : tabC n (onC D th i (j + 1)) = tabC n (onC D th i j) := tabC_congr (fun k t _ _ => by
                unfold onC
                rw [joinN_next, hd]
                rfl)
              unfold Hid
              rw [e]
              exact pT2.out
            clear pT2 hd
            go_wp2
            go_roundw
            case rel => exact ⟨j + 1, by omega, by go_num, pT3, pX2, bw2⟩
            case measure => simp [intOf]; omega
          · have c0 := (pT2.out.cell (j * 3)).trans (tabC_get (t := 0) (onC D th i j) (show j < n by omega) (by omega))
            have c1 := (pT2.out.cell (j * 3 + 1)).trans (tabC_get (t := 1) (onC D th i j) (show j < n by omega) (by omega))
            have c2 := (pT2.out.cell (j * 3 + 2)).trans (tabC_get (t := 2) (onC D th i j) (show j < n by omega) (by omega))
            have kJ := join_is (w := w2.drew) (off := i * 3) pT2.out (onC D th i j i) (onC D th i j j) (tabC_get (t := 0) _ hin (by omega)) (tabC_get (t := 1) _ hin (by omega)) (tabC_get (t := 2) _ hin (by omega))
            rw [tabC_set3 (onC D th i j) (fun t => max (onC D th i j i t) (onC D th i j j t)) hin] at kJ
            have eJ : tabC n (fun k u => if k = i then max (onC D th i j i u) (onC D th i j j u) else onC D th i j k u) = tabC n (onC D th i (j + 1)) := tabC_congr (fun k t _ _ => by
              unfold onC
              rw [joinN_next, hd]
              have ne : ¬ j = i := by omega
              by_cases e : k = i
              · simp only [e, if_true, if_neg ne]
              · simp only [if_neg e])
            rw [eJ] at kJ
            unfold ck at kJ
            clear eJ
            have kJ2 := kJ.mono (R' := fun e w' => e = .returned (.tuple #[]) ∧ Blk w' g 87 (tabC n (onC D th i (j + 1))) ∧ w2.drew.grownBy w' (some g) ∧ w'.cell? ⟨g, j * 3, none⟩ = some (.int .i64 (onC D th i j j 0 : Nat)) ∧ w'.cell? ⟨g, j * 3 + 1, none⟩ = some (.int .i64 (onC D th i j j 1 : Nat)) ∧ w'.cell? ⟨g, j * 3 + 2, none⟩ = some (.int .i64 (onC D th i j j 2 : Nat))) (by
              rintro e w' ⟨h1, h2, h3⟩
              have eZ : ∀ t, onC D th i (j + 1) j t = onC D th i j j t := fun t => by
                unfold onC
                rw [if_neg (show ¬ j = i by omega), if_neg (show ¬ j = i by omega)]
              have d0 := (h2.cell (j * 3)).trans (tabC_get (t := 0) _ (show j < n by omega) (by omega))
              have d1 := (h2.cell (j * 3 + 1)).trans (tabC_get (t := 1) _ (show j < n by omega) (by omega))
              have d2 := (h2.cell (j * 3 + 2)).trans (tabC_get (t := 2) _ (show j < n by omega) (by omega))
              rw [eZ] at d0 d1 d2
              exact ⟨h1, h2, h3, d0, d1, d2⟩)
            clear kJ
            generalize onC D th i j j 0 = z0 at *
            generalize onC D th i j j 1 = z1 at *
            generalize onC D th i j j 2 = z2 at *
            clear hd
            go_wp2_with fail
            go_region_held3 (fun w' => w'.cell? ⟨g, j * 3, none⟩ = some (.int .i64 z0) ∧ w'.cell? ⟨g, j * 3 + 1, none⟩ = some (.int .i64 z1) ∧ w'.cell? ⟨g, j * 3 + 2, none⟩ = some (.int .i64 z2)) (first | (exact ⟨c0, c1, c2⟩) | (exact ⟨d0, d1, d2⟩) | go_keep)
              (first | (go_at_call 72; refine kJ2.mono ?_; rintro e w3 ⟨rfl, pJ, gJ, d0, d1, d2⟩))
            clear kJ2 c0 c1 c2 d0 d1 d2
            have pX3 : Hid (Blk w3 gX 38 [.int .i64 x0, .int .i64 x1, .int .i64 x2, .int .i64 x3]) := pX2.out.drew.kept gJ (by simp; omega)
            have bw3 : Below w.heap.size w w3 := (bel_trans bw2 (by go_grown)).grown gJ bw2.size (fun k e => by cases e; exact hgw)
            have pT3 : Hid (Blk w3 g 87 (tabC n (onC D th i (j + 1)))) := pJ
            clear pX2 bw2 pT2 gJ pJ
            go_wp2
            go_roundw
            case rel => exact ⟨j + 1, by omega, by go_num, pT3, pX3, bw3⟩
            case measure => simp [intOf]; omega
        · obtain rfl : j = i := by omega
          subst hti
          clear hDi hic hc0
          obtain ⟨t, ht⟩ : ∃ t, t = th j := ⟨_, rfl⟩
          have HTt : Hid (t = th j) := ht
          rw [← ht] at ht3 pX
          clear ht
          have cX := pX.out.cell 0
          simp only [List.getElem?_cons_zero] at cX
          have c0 := (pT.out.cell (j * 3 + t)).trans (tabC_get _ hin ht3)
          have f0 := pT.out.frozen (j * 3 + t)
          have eV : onC D th j j j t = joinN D j (clkF D th j) t j := by unfold onC; rw [if_pos rfl]
          rw [eV] at c0
          have hvb := joinN_bound (D := D) (k := j) (prev := clkF D th j) (t := t) (fun q => clkF_bound D th t j q) j
          have pT2 := pT.out.set (j * 3 + t) (.int .i64 (joinN D j (clkF D th j) t j + 1 : Nat))
          rw [tabC_set _ _ hin ht3] at pT2
          have e2 : tabC n (fun k u => if k = j ∧ u = t then joinN D j (clkF D th j) t j + 1 else onC D th j j k u) = tabC n (clkF D th (j + 1)) := tabC_congr (fun k u _ _ => by
            rw [clkF_next]
            unfold onC
            by_cases e : k = j
            · simp only [e, true_and, if_true]
              by_cases e' : u = t
              · subst e'
                rw [if_pos rfl, if_pos HTt.out]
              · rw [if_neg e', if_neg (fun q => e' (q.trans HTt.out.symm)), Nat.add_zero]
            · simp only [e, false_and, if_false])
          rw [e2] at pT2
          clear e2 eV pT
          generalize joinN D j (clkF D th j) t j = v at *
          have hw9 : IntKind.i64.wrap ((v : Int) + 1) = ((v + 1 : Nat) : Int) := by
            rw [IntWalk.i64_in _ ⟨by omega, by omega⟩]
            omega
          have ht9 : (t : Int) < 3 := by omega
          have ht8 : (0 : Int) ≤ (t : Int) := by omega
          clear pX
          go_wp2_with fail
          go_region
          have pT3 : Hid (Blk ((wr.setCell ⟨g, j * 3 + t, none⟩ (.int .i64 (v + 1 : Nat))).drew) g 87 (tabC n (clkF D th (j + 1)))) := pT2
          have bw3 : Below w.heap.size w ((wr.setCell ⟨g, j * 3 + t, none⟩ (.int .i64 (v + 1 : Nat))).drew) := bel_trans (bw.setCell hgw _) (by go_grown)
          clear pT2 bw hw9 c0 f0 cX
          go_wp2
          go_roundw
          case rel => exact ⟨j + 1, by omega, by go_num, pT3, bw3⟩
          case measure => simp [intOf]; omega
    · obtain rfl : i = n := by omega
      have pT2 : Blk wr g 87 (tabC i (clk D th)) := by
        have e : tabC i (clk D th) = tabC i (clkF D th i) := tabC_congr (fun k t hk _ => (clkF_clk D th k t i hk).symm)
        rw [e]
        exact pT.out
      clear pT
      go_wp2
      go_ret
      exact ⟨g, rfl, pT2, hgw, bw⟩
end Go.Proofs.YtmhngodbnoonhaaGreatDoor


/-
  The program's leastThread.
-/
namespace Go.Proofs.YtmhngodbnoonhaaGreatDoor
open Go.RowKit
set_option linter.unusedVariables false
set_option linter.unusedSimpArgs false

theorem tab_three (f : Nat → Value) : tab 3 f = [f 0, f 1, f 2] := rfl
/-- What is due: one more of the thread. -/
def dueC (f : Nat → Nat) (t u : Nat) : Nat := f u + (if u = t then 1 else 0)
theorem okN_due (D : Nat → Nat → Bool) (th : Nat → Nat) (f : Nat → Nat) (k : Nat) : okN D th f k = (decide (clk D th k (th k) = dueC f (th k) (th k)) && inC (clk D th k) (dueC f (th k))) := by
  unfold okN inC dueC
  simp only [if_true]
theorem leastT_step (ok : Nat → Bool) (th : Nat → Nat) (n : Nat) : leastT ok th (n + 1) = if ok n then Nat.min (leastT ok th n) (th n) else leastT ok th n := rfl
theorem leastT_three {ok : Nat → Bool} {th : Nat → Nat} : ∀ n, leastT ok th n ≤ 3
  | 0 => Nat.le_refl _
  | n + 1 => by
    rw [leastT_step]
    have := leastT_three (ok := ok) (th := th) n
    split
    · exact Nat.le_trans (Nat.min_le_left _ _) this
    · exact this

set_option maxHeartbeats 2000000 in
set_option maxRecDepth 100000 in
theorem leastThread_is (a : Option Addr) (n c g : Nat) (es : List I4) (w : World) (h : Evs w a n es) (hn : n ≤ 4096) (hI : inThree es) (hB : Blk w g 87 (tabC n (clk (depE es) (thE es)))) (f : Nat → Nat) (hf : ∀ t, f t ≤ 5000) :
    Calls Tryz.prog 46 #[.slice a n c, .slice (some ⟨g, 0, none⟩) n n, ck f] w fun e w' => e = .returned (.int .i64 (leastT (okN (depE es) (thE es) f) (thE es) n : Nat)) ∧ Below w.heap.size w w' := by
  obtain ⟨D, hD⟩ : ∃ D, D = depE es := ⟨_, rfl⟩
  obtain ⟨th, hT⟩ : ∃ th, th = thE es := ⟨_, rfl⟩
  rw [← hD, ← hT] at hB ⊢
  have HT : Hid (th = thE es) := hT
  clear hD hT
  unfold ck
  have pF := Blk.new w 87 [.int .i64 (f 0 : Nat), .int .i64 (f 1 : Nat), .int .i64 (f 2 : Nat)]
  have bw : Below w.heap.size w (w.alloc (.cells #[.int .i64 (f 0 : Nat), .int .i64 (f 1 : Nat), .int .i64 (f 2 : Nat)] 87)) := by go_grown
  have hgl9 := hB.lt
  obtain ⟨gF, hgF⟩ : ∃ gF, gF = w.heap.size := ⟨_, rfl⟩
  have HgF : Hid (gF = w.heap.size) := hgF
  rw [← hgF] at pF
  have hgFw : w.heap.size ≤ gF := by omega
  have hgg : g < gF := by omega
  obtain ⟨ok, hok⟩ : ∃ ok, ok = okN D th f := ⟨_, rfl⟩
  rw [← hok]
  have HK : Hid (ok = okN D th f) := hok
  clear hok hgF
  go_enter Tryz.func46, Tryz.ntmps46
  go_wp2_with fail
  rw [← HgF.out]
  generalize w.alloc (.cells #[.int .i64 (f 0 : Nat), .int .i64 (f 1 : Nat), .int .i64 (f 2 : Nat)] 87) = U at *
  go_wp2_with fail
  go_loopw [7, 14] (fun sl si wr => ∃ i : Nat, i ≤ n ∧ sl = .int .i64 (leastT ok th i : Nat) ∧ si = .int .i64 i ∧ Hid (Blk wr gF 87 [.int .i64 (f 0 : Nat), .int .i64 (f 1 : Nat), .int .i64 (f 2 : Nat)]) ∧ Below w.heap.size w wr) (fun _ si _ => n - (intOf si).toNat)
  case atStart => exact ⟨0, by omega, rfl, rfl, pF, bw⟩
  case round =>
    clear pF bw
    obtain ⟨i, hi, rfl, rfl, pF, bw⟩ := hrel
    by_cases hin : i < n
    · have hin' : (i : Int) < (n : Int) := by omega
      have hi0 : (0 : Int) ≤ (i : Int) := by omega
      obtain ⟨ge, rfl, hgl, hrg⟩ := ev_range h bw hin
      have hti : (th i : Int) = (evAt es i).1 := by rw [HT.out]; exact thE_int hI i
      have ht3 : th i < 3 := by rw [HT.out]; exact thE_three hI i
      generalize evAt es i = x at hrg hti
      obtain ⟨x0, x1, x2, x3⟩ := x
      simp only at hrg hti
      subst hti
      have HL : Hid (leastT ok th (i + 1) = if ok i then Nat.min (leastT ok th i) (th i) else leastT ok th i) := rfl
      have hl3 := leastT_three (ok := ok) (th := th) i
      have HO : Hid (ok i = (decide (clk D th i (th i) = dueC f (th i) (th i)) && inC (clk D th i) (dueC f (th i)))) := by rw [HK.out]; exact okN_due D th f i
      generalize leastT ok th i = l at *
      obtain ⟨t, ht⟩ : ∃ t, t = th i := ⟨_, rfl⟩
      rw [← ht] at ht3 hrg HL HO
      clear ht
      have pN := Blk.new wr 38 [.int .i64 0, .int .i64 0, .int .i64 0, .int .i64 0]
      have ha : Below wr.heap.size wr (wr.alloc (.cells #[.int .i64 0, .int .i64 0, .int .i64 0, .int .i64 0] 38)) := by go_grown
      go_wp2_with (first | refine wpList_load_mid rfl 38 _ rfl ge (i * 4) rfl [.int .i64 (t : Int), .int .i64 x1, .int .i64 x2, .int .i64 x3] _ hrg Tryz.underlying38 rfl (by kernel_rfl) ?_ | refine wpList_store_blk rfl 38 _ _ rfl wr.heap.size [.int .i64 (t : Int), .int .i64 x1, .int .i64 x2, .int .i64 x3] rfl rfl pN (by kernel_rfl) rfl rfl ?_)
      intro W pX g1
      have hfr := pF.out.lt
      have pF1 := (pF.out.below ha).kept g1 (by simp; omega)
      have bw1 := (bel_trans bw ha).grown g1 (Nat.le_trans bw.size ha.size) (fun k e => by cases e; exact bw.size)
      have pX1 := pX.out
      have hXl := pX1.lt
      have hFX : gF < wr.heap.size := hfr
      clear pN ha g1 hrg pX bw pF hfr
      generalize wr.heap.size = gX at *
      have pN := Blk.new W 87 [.int .i64 0, .int .i64 0, .int .i64 0]
      have ha : Below W.heap.size W (W.alloc (.cells #[.int .i64 0, .int .i64 0, .int .i64 0] 87)) := by go_grown
      go_wp2_with (first | refine wpList_load_blk rfl 87 _ rfl gF rfl pF1 _ Tryz.underlying87 rfl (by kernel_rfl) ?_ | refine wpList_store_blk rfl 87 _ _ rfl W.heap.size [.int .i64 (f 0 : Nat), .int .i64 (f 1 : Nat), .int .i64 (f 2 : Nat)] rfl rfl pN (by kernel_rfl) rfl rfl ?_)
      intro V pD g1
      have pF2 : Hid (Blk V gF 87 [.int .i64 (f 0 : Nat), .int .i64 (f 1 : Nat), .int .i64 (f 2 : Nat)]) := (pF1.below ha).kept g1 (by simp; omega)
      have pX2 := (pX1.below ha).kept g1 (by simp; omega)
      have bw2 := (bel_trans bw1 ha).grown g1 (Nat.le_trans bw1.size ha.size) (fun k e => by cases e; exact bw1.size)
      have pD1 := pD.out
      have hsz := bw1.size
      clear pN ha g1 pX1 pF1 bw1 pD
      generalize W.heap.size = gD at *
      have cX := pX2.cell 0
      simp only [List.getElem?_cons_zero] at cX
      have ht9 : (t : Int) < 3 := by omega
      have ht8 : (0 : Int) ≤ (t : Int) := by omega
      have c0 := (pD1.cell t).trans ((congrArg (·[t]?) (tab_three fun u => .int .i64 (f u : Nat))).symm.trans (tab_get _ ht3))
      have f0 := pD1.frozen t
      have hft := hf t
      have pD2 : Hid (Blk (V.setCell ⟨gD, t, none⟩ (.int .i64 (f t + 1 : Nat))) gD 87 (tab 3 fun u => .int .i64 (dueC f t u : Nat))) := by
        have := pD1.set t (.int .i64 (f t + 1 : Nat))
        have e : [.int .i64 (f 0 : Nat), .int .i64 (f 1 : Nat), .int .i64 (f 2 : Nat)].set t (.int .i64 (f t + 1 : Nat)) = tab 3 (fun u => .int .i64 (dueC f t u : Nat)) := by
          rw [← tab_three fun u => .int .i64 (f u : Nat), tab_set]
          refine tab_congr (fun u _ => ?_)
          unfold dueC
          by_cases e : u = t
          · subst e; simp
          · simp [e]
        rw [e] at this
        exact this
      have gs : V.grownBy (V.setCell ⟨gD, t, none⟩ (.int .i64 (f t + 1 : Nat))) (some gD) := ⟨rfl, rfl, rfl, by simp, fun i _ hr => Below.heap_setCell V ⟨gD, t, none⟩ _ i (fun e => hr (by rw [e]))⟩
      have pF3 : Hid (Blk _ gF 87 [.int .i64 (f 0 : Nat), .int .i64 (f 1 : Nat), .int .i64 (f 2 : Nat)]) := pF2.out.kept gs (by simp; omega)
      have pX3 := pX2.kept gs (by simp; omega)
      have bw3 := bw2.grown gs bw2.size (fun k e => by cases e; omega)
      clear pF2 pX2 bw2 pD1 gs
      rw [show ((f t + 1 : Nat) : Int) = (f t : Int) + 1 from rfl] at pD2 pF3 pX3 bw3
      go_wp2_with fail
      generalize V.setCell ⟨gD, t, none⟩ (.int .i64 ((f t : Int) + 1)) = V2 at *
      clear cX c0 f0
      have cX := pX3.cell 0
      simp only [List.getElem?_cons_zero] at cX
      have pB := hB.below bw3
      have kt := (pB.cell (i * 3 + t)).trans (tabC_get _ hin ht3)
      have dt := (pD2.out.cell t).trans (tab_get _ ht3)
      have kk : ∀ u, u < 3 → V2.cell? ⟨g, i * 3 + u, none⟩ = some (.int .i64 (clk D th i u : Nat)) := fun u hu => (pB.cell (i * 3 + u)).trans (tabC_get _ hin hu)
      have dd : ∀ u, u < 3 → V2.cell? ⟨gD, u, none⟩ = some (.int .i64 (dueC f t u : Nat)) := fun u hu => (pD2.out.cell u).trans (tab_get _ hu)
      have k0 := kk 0 (by omega)
      have k1 := kk 1 (by omega)
      have k2 := kk 2 (by omega)
      have e0 := dd 0 (by omega)
      have e1 := dd 1 (by omega)
      have e2 := dd 2 (by omega)
      rw [Nat.add_zero] at k0
      have kW := fun W => within_is (clk D th i) (dueC f t) W
      unfold ck at kW
      clear pB kk dd pX3 pD2
      obtain ⟨o2, ho2⟩ : ∃ o2, o2 = inC (clk D th i) (dueC f t) := ⟨_, rfl⟩
      rw [← ho2] at kW HO
      clear ho2
      generalize clk D th i 0 = q0 at *
      generalize clk D th i 1 = q1 at *
      generalize clk D th i 2 = q2 at *
      generalize dueC f t 0 = r0 at *
      generalize dueC f t 1 = r1 at *
      generalize dueC f t 2 = r2 at *
      generalize clk D th i t = qt at *
      generalize dueC f t t = rt at *
      by_cases heq : qt = rt
      · subst heq
        have qe : ((qt : Int) == (qt : Int)) = true := by simp
        have HO2 : Hid (ok i = o2) := by rw [Hid, HO.out]; simp
        clear HO
        go_quiet (fail)
        have bw4 : Below w.heap.size w (V2.drewN nq) := bel_trans bw3 (below_dN nq)
        have pF4 : Hid (Blk (V2.drewN nq) gF 87 [.int .i64 (f 0 : Nat), .int .i64 (f 1 : Nat), .int .i64 (f 2 : Nat)]) := pF3.out.drewN nq
        have cX4 : (V2.drewN nq).cell? ⟨gX, 0, none⟩ = some (.int .i64 (t : Int)) := cX
        have k0' : (V2.drewN nq).cell? ⟨g, i * 3, none⟩ = some (.int .i64 (q0 : Nat)) := k0
        have k1' : (V2.drewN nq).cell? ⟨g, i * 3 + 1, none⟩ = some (.int .i64 (q1 : Nat)) := k1
        have k2' : (V2.drewN nq).cell? ⟨g, i * 3 + 2, none⟩ = some (.int .i64 (q2 : Nat)) := k2
        have e0' : (V2.drewN nq).cell? ⟨gD, 0, none⟩ = some (.int .i64 (r0 : Nat)) := e0
        have e1' : (V2.drewN nq).cell? ⟨gD, 1, none⟩ = some (.int .i64 (r1 : Nat)) := e1
        have e2' : (V2.drewN nq).cell? ⟨gD, 2, none⟩ = some (.int .i64 (r2 : Nat)) := e2
        clear bw3 pF3 cX k0 k1 k2 e0 e1 e2 kt dt
        generalize V2.drewN nq = V3 at *
        go_wp2_with fail
        go_region_held3 (fun w' => w'.cell? ⟨g, i * 3, none⟩ = some (.int .i64 (q0 : Nat)) ∧ w'.cell? ⟨g, i * 3 + 1, none⟩ = some (.int .i64 (q1 : Nat)) ∧ w'.cell? ⟨g, i * 3 + 2, none⟩ = some (.int .i64 (q2 : Nat)) ∧ w'.cell? ⟨gD, 0, none⟩ = some (.int .i64 (r0 : Nat)) ∧ w'.cell? ⟨gD, 1, none⟩ = some (.int .i64 (r1 : Nat)) ∧ w'.cell? ⟨gD, 2, none⟩ = some (.int .i64 (r2 : Nat))) (first | (exact ⟨k0', k1', k2', e0', e1', e2'⟩) | (refine ⟨?_, ?_, ?_, ?_, ?_, ?_⟩ <;> (apply cells_kept (by assumption); assumption)) | go_keep)
          (first | (go_at_call 73; refine (kW _).mono ?_; rintro e V4 ⟨rfl, hb⟩))
        rename_i hHeld
        have hb5 : Below V3.heap.size V3 V4 := bel_trans (by go_grown) hb
        have bw5 := bel_trans bw4 hb5
        have pF5 : Hid (Blk V4 gF 87 [.int .i64 (f 0 : Nat), .int .i64 (f 1 : Nat), .int .i64 (f 2 : Nat)]) := pF4.out.below hb5
        have cX5 := cells_kept hb5 _ _ cX4
        clear hHeld k0' k1' k2' e0' e1' e2' cX4 pF4 bw4 hb hb5 kW
        cases o2
        · have HO3 : Hid (leastT ok th (i + 1) = l) := by rw [Hid, HL.out, HO2.out]; simp
          clear HO2 HL
          go_wp2
          go_roundw
          case rel => exact ⟨i + 1, by omega, by rw [HO3.out], by go_num, pF5, bw5⟩
          case measure => simp [intOf]; omega
        · have HO3 : Hid (leastT ok th (i + 1) = Nat.min l t) := by rw [Hid, HL.out, HO2.out]; simp
          clear HO2 HL
          by_cases hlt : l < t
          · have HO4 : Hid (leastT ok th (i + 1) = l) := by rw [Hid, HO3.out]; exact Nat.min_eq_left (by omega)
            have hlt' : (l : Int) < (t : Int) := by omega
            have hlt9 : ¬ (t : Int) < (l : Int) := by omega
            clear HO3 hlt
            go_wp2
            go_roundw
            case rel => exact ⟨i + 1, by omega, by rw [HO4.out] <;> (try (congr 1; omega)), by go_num, pF5, bw5⟩
            case measure => simp [intOf]; omega
          · have HO4 : Hid (leastT ok th (i + 1) = t) := by rw [Hid, HO3.out]; exact Nat.min_eq_right (by omega)
            clear HO3
            by_cases hle : t < l
            · have hlt' : (t : Int) < (l : Int) := by omega
              have hlt9 : ¬ (l : Int) < (t : Int) := by omega
              clear hlt hle
              go_wp2
              go_roundw
              case rel => exact ⟨i + 1, by omega, by rw [HO4.out] <;> (try (congr 1; omega)), by go_num, pF5, bw5⟩
              case measure => simp [intOf]; omega
            · obtain rfl : t = l := by omega
              have hlt9 : ¬ (t : Int) < (t : Int) := by omega
              clear hlt hle
              go_wp2
              go_roundw
              case rel => exact ⟨i + 1, by omega, by rw [HO4.out] <;> (try (congr 1; omega)), by go_num, pF5, bw5⟩
              case measure => simp [intOf]; omega
      · have qe : ((qt : Int) == (rt : Int)) = false := by simp; omega
        have HO2 : Hid (leastT ok th (i + 1) = l) := by rw [Hid, HL.out, HO.out]; simp [heq]
        clear HO HL kW heq
        go_quiet (fail)
        go_wp2
        go_quiet (fail)
        go_wp2
        go_roundw
        case rel => exact ⟨i + 1, by omega, by rw [HO2.out], by go_num, pF3.out.drewN _, bel_trans bw3 (below_dN _)⟩
        case measure => simp [intOf]; omega
    · obtain rfl : i = n := by omega
      go_wp2
      go_ret
      exact ⟨rfl, bw⟩
end Go.Proofs.YtmhngodbnoonhaaGreatDoor


/-
  What an instruction touches; an event of the program's machine.
-/
namespace Go.Proofs.YtmhngodbnoonhaaGreatDoor
open Go.RowKit
set_option linter.unusedVariables false
set_option linter.unusedSimpArgs false

/-- What an instruction touches. -/
def objM (x : I3) : Int := if x.1 = 1 then x.2.2 else if x.1 = 2 then x.2.1 else if x.1 = 5 ∨ x.1 = 6 then 4 + x.2.1 else -1
/-- What thread k does next: its number, its place, its operation, what it touches. -/
def eventM (rows : List (List I3)) (m : V4) (k : Nat) : Int × Int × Int × Int := (k, m.1.getD k 0, (insM rows m k).1, objM (insM rows m k))

set_option maxHeartbeats 1000000 in
set_option maxRecDepth 100000 in
theorem objOf_is (x0 x1 x2 : Int) (hx : -1000 ≤ x1 ∧ x1 ≤ 1000) (w : World) : Calls Tryz.prog 67 #[.agg #[.int .i64 x0, .int .i64 x1, .int .i64 x2]] w fun e w' => e = .returned (.int .i64 (objM (x0, x1, x2))) ∧ Below w.heap.size w w' := by
  obtain ⟨r, hr⟩ : ∃ r, r = objM (x0, x1, x2) := ⟨_, rfl⟩
  rw [← hr]
  unfold objM at hr
  simp only at hr
  have HR : Hid (r = if x0 = 1 then x2 else if x0 = 2 then x1 else if x0 = 5 ∨ x0 = 6 then 4 + x1 else -1) := hr
  clear hr
  have h4 : IntKind.i64.wrap (4 + x1) = 4 + x1 := IntWalk.i64_in _ (by omega)
  by_cases q1 : x0 = 1
  · have HF : Hid (r = x2) := by rw [Hid, HR.out]; simp [q1]
    subst q1
    clear HR 
    go_enter Tryz.func67, Tryz.ntmps67
    go_wp2
    go_ret
    exact ⟨by rw [HF.out]; rfl, by go_grown⟩
  by_cases q2 : x0 = 2
  · have HF : Hid (r = x1) := by rw [Hid, HR.out]; simp [q2]
    subst q2
    clear HR q1
    go_enter Tryz.func67, Tryz.ntmps67
    go_wp2
    go_ret
    exact ⟨by rw [HF.out]; rfl, by go_grown⟩
  by_cases q5 : x0 = 5
  · have HF : Hid (r = 4 + x1) := by rw [Hid, HR.out]; simp [q5]
    subst q5
    clear HR q1 q2
    go_enter Tryz.func67, Tryz.ntmps67
    go_wp2
    go_ret
    exact ⟨by rw [HF.out]; rfl, by go_grown⟩
  by_cases q6 : x0 = 6
  · have HF : Hid (r = 4 + x1) := by rw [Hid, HR.out]; simp [q6]
    subst q6
    clear HR q1 q2 q5
    go_enter Tryz.func67, Tryz.ntmps67
    go_wp2
    go_ret
    exact ⟨by rw [HF.out]; rfl, by go_grown⟩
  have HF : Hid (r = -1) := by rw [Hid, HR.out, if_neg q1, if_neg q2, if_neg (by omega)]
  have r1 : (x0 == 1) = false := by simp [q1]
  have r2 : (x0 == 2) = false := by simp [q2]
  have r5 : (x0 == 5) = false := by simp [q5]
  have r6 : (x0 == 6) = false := by simp [q6]
  clear HR q1 q2 q5 q6
  go_enter Tryz.func67, Tryz.ntmps67
  go_wp2
  go_ret
  exact ⟨by rw [HF.out]; rfl, by go_grown⟩

set_option maxHeartbeats 1000000 in
set_option maxRecDepth 100000 in
theorem l05Obj_is (x0 x1 x2 : Int) (hx : -1000 ≤ x1 ∧ x1 ≤ 1000) (w : World) : Calls Tryz.prog 95 #[.agg #[.int .i64 x0, .int .i64 x1, .int .i64 x2]] w fun e w' => e = .returned (.int .i64 (objM (x0, x1, x2))) ∧ Below w.heap.size w w' := by
  obtain ⟨r, hr⟩ : ∃ r, r = objM (x0, x1, x2) := ⟨_, rfl⟩
  rw [← hr]
  unfold objM at hr
  simp only at hr
  have HR : Hid (r = if x0 = 1 then x2 else if x0 = 2 then x1 else if x0 = 5 ∨ x0 = 6 then 4 + x1 else -1) := hr
  clear hr
  have h4 : IntKind.i64.wrap (4 + x1) = 4 + x1 := IntWalk.i64_in _ (by omega)
  by_cases q1 : x0 = 1
  · have HF : Hid (r = x2) := by rw [Hid, HR.out]; simp [q1]
    subst q1
    clear HR 
    go_enter Tryz.func95, Tryz.ntmps95
    go_wp2
    go_ret
    exact ⟨by rw [HF.out]; rfl, by go_grown⟩
  by_cases q2 : x0 = 2
  · have HF : Hid (r = x1) := by rw [Hid, HR.out]; simp [q2]
    subst q2
    clear HR q1
    go_enter Tryz.func95, Tryz.ntmps95
    go_wp2
    go_ret
    exact ⟨by rw [HF.out]; rfl, by go_grown⟩
  by_cases q5 : x0 = 5
  · have HF : Hid (r = 4 + x1) := by rw [Hid, HR.out]; simp [q5]
    subst q5
    clear HR q1 q2
    go_enter Tryz.func95, Tryz.ntmps95
    go_wp2
    go_ret
    exact ⟨by rw [HF.out]; rfl, by go_grown⟩
  by_cases q6 : x0 = 6
  · have HF : Hid (r = 4 + x1) := by rw [Hid, HR.out]; simp [q6]
    subst q6
    clear HR q1 q2 q5
    go_enter Tryz.func95, Tryz.ntmps95
    go_wp2
    go_ret
    exact ⟨by rw [HF.out]; rfl, by go_grown⟩
  have HF : Hid (r = -1) := by rw [Hid, HR.out, if_neg q1, if_neg q2, if_neg (by omega)]
  have r1 : (x0 == 1) = false := by simp [q1]
  have r2 : (x0 == 2) = false := by simp [q2]
  have r5 : (x0 == 5) = false := by simp [q5]
  have r6 : (x0 == 6) = false := by simp [q6]
  clear HR q1 q2 q5 q6
  go_enter Tryz.func95, Tryz.ntmps95
  go_wp2
  go_ret
  exact ⟨by rw [HF.out]; rfl, by go_grown⟩

set_option maxHeartbeats 1600000 in
set_option maxRecDepth 100000 in
theorem event_raw (g k p b off n c : Nat) (x0 x1 x2 : Int) (w : World) (hk : k < 3) (hp : p < n) (hp6 : p ≤ 6) (hx : -1000 ≤ x1 ∧ x1 ≤ 1000)
    (e0 : w.cell? ⟨g, k * 4, none⟩ = some (.slice (some ⟨b, off, none⟩) n c)) (e1 : w.cell? ⟨g, k * 4 + 1, none⟩ = some (.int .i64 p)) (q0 : w.cell? ⟨b, off + p * 3, none⟩ = some (.int .i64 x0)) (q1 : w.cell? ⟨b, off + p * 3 + 1, none⟩ = some (.int .i64 x1)) (q2 : w.cell? ⟨b, off + p * 3 + 2, none⟩ = some (.int .i64 x2)) :
    Calls Tryz.prog 37 #[.pointer (some ⟨g, 0, none⟩), .int .i64 k] w fun e w' => e = .returned (.agg #[.int .i64 k, .int .i64 p, .int .i64 x0, .int .i64 (objM (x0, x1, x2))]) ∧ Below w.heap.size w w' := by
  have hgl : g < w.heap.size := World.block_lt_of_cell? _ _ e1
  have hk3 : (k : Int) < 3 := by omega
  have hpn : (p : Int) < (n : Int) := by omega
  have kO := objOf_is x0 x1 x2 hx
  generalize objM (x0, x1, x2) = ob at *
  have bw : Below w.heap.size w (w.alloc (.cells #[.int .i64 0, .int .i64 0, .int .i64 0, .int .i64 0] 38)) := by go_grown
  have pR : Blk (w.alloc (.cells #[.int .i64 0, .int .i64 0, .int .i64 0, .int .i64 0] 38)) w.heap.size 38 [.int .i64 0, .int .i64 0, .int .i64 0, .int .i64 0] := blkAt _ _ _ rfl
  replace e0 := cells_kept bw _ _ e0
  replace e1 := cells_kept bw _ _ e1
  replace q0 := cells_kept bw _ _ q0
  replace q1 := cells_kept bw _ _ q1
  replace q2 := cells_kept bw _ _ q2
  go_enter Tryz.func37, Tryz.ntmps37
  go_wp2_with fail
  have hX9 : w.heap.size < (w.alloc (.cells #[.int .i64 0, .int .i64 0, .int .i64 0, .int .i64 0] 38)).heap.size := pR.lt
  generalize (w.alloc (.cells #[.int .i64 0, .int .i64 0, .int .i64 0, .int .i64 0] 38)) = W at *
  refine wp_region_held_drew (S := (fun w' => w'.cell? ⟨g, k * 4, none⟩ = some (.slice (some ⟨b, off, none⟩) n c) ∧ w'.cell? ⟨g, k * 4 + 1, none⟩ = some (.int .i64 p) ∧ w'.cell? ⟨b, off + p * 3, none⟩ = some (.int .i64 x0) ∧ w'.cell? ⟨b, off + p * 3 + 1, none⟩ = some (.int .i64 x1) ∧ w'.cell? ⟨b, off + p * 3 + 2, none⟩ = some (.int .i64 x2))) (by kernel_rfl) ⟨e0, e1, q0, q1, q2⟩ (fun hS0 => ?_)
  refine wpAnyH_take (i := 0) (oi := { dst := some 12, op := _, type := _, pos := _, after := _, guard := _ }) (v := .pointer (some ⟨g, k * 4, none⟩)) rfl (by kernel_rfl) (by kernel_rfl) (by kernel_rfl) (fun _ _ _ h => h) (Or.inl ⟨by rfl, ?_⟩) (by assumption) ?_
  · (intro w' hSw; (try dsimp only at hSw); go_simp; try rfl)
  simp only [Act.put, List.setIfInBounds_toArray, List.set_cons_zero, List.set_cons_succ]
  refine wpAnyH_take (i := 1) (oi := { dst := some 13, op := _, type := _, pos := _, after := _, guard := _ }) (v := .pointer (some ⟨g, k * 4, none⟩)) rfl (by kernel_rfl) (by kernel_rfl) (by kernel_rfl) (fun _ _ _ h => h) (Or.inl ⟨by rfl, ?_⟩) (by assumption) ?_
  · (intro w' hSw; (try dsimp only at hSw); go_simp; try rfl)
  simp only [Act.put, List.setIfInBounds_toArray, List.set_cons_zero, List.set_cons_succ]
  refine wpAnyH_take (i := 2) (oi := { dst := some 14, op := _, type := _, pos := _, after := _, guard := _ }) (v := .pointer (some ⟨g, k * 4, none⟩)) rfl (by kernel_rfl) (by kernel_rfl) (by kernel_rfl) (fun _ _ _ h => h) (Or.inl ⟨by rfl, ?_⟩) (by assumption) ?_
  · (intro w' hSw; (try dsimp only at hSw); go_simp; try rfl)
  simp only [Act.put, List.setIfInBounds_toArray, List.set_cons_zero, List.set_cons_succ]
  refine wpAnyH_take (i := 3) (oi := { dst := some 15, op := _, type := _, pos := _, after := _, guard := _ }) (v := .slice (some ⟨b, off, none⟩) n c) rfl (by kernel_rfl) (by kernel_rfl) (by kernel_rfl) (fun _ _ _ h => h) (Or.inl ⟨by rfl, ?_⟩) (by assumption) ?_
  · (intro w' hSw; (try dsimp only at hSw); go_simp; try rfl)
  simp only [Act.put, List.setIfInBounds_toArray, List.set_cons_zero, List.set_cons_succ]
  refine wpAnyH_take (i := 4) (oi := { dst := some 16, op := _, type := _, pos := _, after := _, guard := _ }) (v := .pointer (some ⟨g, k * 4, none⟩)) rfl (by kernel_rfl) (by kernel_rfl) (by kernel_rfl) (fun _ _ _ h => h) (Or.inl ⟨by rfl, ?_⟩) (by assumption) ?_
  · (intro w' hSw; (try dsimp only at hSw); go_simp; try rfl)
  simp only [Act.put, List.setIfInBounds_toArray, List.set_cons_zero, List.set_cons_succ]
  refine wpAnyH_take (i := 5) (oi := { dst := some 17, op := _, type := _, pos := _, after := _, guard := _ }) (v := .pointer (some ⟨g, k * 4, none⟩)) rfl (by kernel_rfl) (by kernel_rfl) (by kernel_rfl) (fun _ _ _ h => h) (Or.inl ⟨by rfl, ?_⟩) (by assumption) ?_
  · (intro w' hSw; (try dsimp only at hSw); go_simp; try rfl)
  simp only [Act.put, List.setIfInBounds_toArray, List.set_cons_zero, List.set_cons_succ]
  refine wpAnyH_take (i := 6) (oi := { dst := some 18, op := _, type := _, pos := _, after := _, guard := _ }) (v := .pointer (some ⟨g, k * 4 + 1, none⟩)) rfl (by kernel_rfl) (by kernel_rfl) (by kernel_rfl) (fun _ _ _ h => h) (Or.inl ⟨by rfl, ?_⟩) (by assumption) ?_
  · (intro w' hSw; (try dsimp only at hSw); go_simp; try rfl)
  simp only [Act.put, List.setIfInBounds_toArray, List.set_cons_zero, List.set_cons_succ]
  refine wpAnyH_take (i := 7) (oi := { dst := some 19, op := _, type := _, pos := _, after := _, guard := _ }) (v := .int .i64 p) rfl (by kernel_rfl) (by kernel_rfl) (by kernel_rfl) (fun _ _ _ h => h) (Or.inl ⟨by rfl, ?_⟩) (by assumption) ?_
  · (intro w' hSw; (try dsimp only at hSw); go_simp; try rfl)
  simp only [Act.put, List.setIfInBounds_toArray, List.set_cons_zero, List.set_cons_succ]
  refine wpAnyH_take (i := 8) (oi := { dst := some 20, op := _, type := _, pos := _, after := _, guard := _ }) (v := .pointer (some ⟨b, off + p * 3, none⟩)) rfl (by kernel_rfl) (by kernel_rfl) (by kernel_rfl) (fun _ _ _ h => h) (Or.inl ⟨by rfl, ?_⟩) (by assumption) ?_
  · (intro w' hSw; (try dsimp only at hSw); go_simp; try rfl)
  simp only [Act.put, List.setIfInBounds_toArray, List.set_cons_zero, List.set_cons_succ]
  refine wpAnyH_take (i := 9) (oi := { dst := some 21, op := _, type := _, pos := _, after := _, guard := _ }) (v := .agg #[.int .i64 x0, .int .i64 x1, .int .i64 x2]) rfl (by kernel_rfl) (by kernel_rfl) (by kernel_rfl) (fun _ _ _ h => h) (Or.inl ⟨by rfl, ?_⟩) (by assumption) ?_
  · (intro w' hSw; (try dsimp only at hSw); go_simp; try rfl)
  simp only [Act.put, List.setIfInBounds_toArray, List.set_cons_zero, List.set_cons_succ]
  refine wpAnyH_ready (rs := [10]) (by kernel_rfl) (by simp) ?_
  refine AllReadyH.cons (o := { dst := some 6, op := _, type := _, pos := _, after := _, guard := _ }) rfl (fun K hK => ?_) AllReadyH.nil
  have hal : Below W.drew.heap.size W.drew (W.drew.alloc (.cells #[.int .i64 0, .int .i64 0, .int .i64 0] 102)) := by go_grown
  go_simp
  refine hK.out _ _ ?_ (fun hS1 => ?_)
  · exact ⟨cells_kept hal _ _ hS0.1, cells_kept hal _ _ hS0.2.1, cells_kept hal _ _ hS0.2.2.1, cells_kept hal _ _ hS0.2.2.2.1, cells_kept hal _ _ hS0.2.2.2.2⟩
  clear hK
  try simp only [Act.put, List.setIfInBounds_toArray, List.set_cons_zero, List.set_cons_succ]
  refine wpAnyH_ready (rs := [11]) (by kernel_rfl) (by simp) ?_
  refine AllReadyH.cons (o := { dst := none, op := _, type := _, pos := _, after := _, guard := _ }) rfl (fun K hK => ?_) AllReadyH.nil
  have hal2 : Below W.drew.heap.size W.drew (W.drew.alloc (.cells #[.int .i64 x0, .int .i64 x1, .int .i64 x2] 102)) := by go_grown
  go_simp
  refine hK.out _ _ ?_ (fun hS2 => ?_)
  · exact ⟨cells_kept hal2 _ _ hS0.1, cells_kept hal2 _ _ hS0.2.1, cells_kept hal2 _ _ hS0.2.2.1, cells_kept hal2 _ _ hS0.2.2.2.1, cells_kept hal2 _ _ hS0.2.2.2.2⟩
  clear hK
  try simp only [Act.put, List.setIfInBounds_toArray, List.set_cons_zero, List.set_cons_succ]
  refine wpAnyH_done (by kernel_rfl) ?_ _
  have hb : Below W.heap.size W (W.alloc (.cells #[.int .i64 x0, .int .i64 x1, .int .i64 x2] 102)).drew := by go_grown
  have pX : Blk (W.alloc (.cells #[.int .i64 x0, .int .i64 x1, .int .i64 x2] 102)).drew W.heap.size 102 [.int .i64 x0, .int .i64 x1, .int .i64 x2] := blkAt _ _ _ rfl
  replace bw := bel_trans bw hb
  replace pR := pR.below hb
  replace e1 := cells_kept hb _ _ e1
  skip
  clear hal hal2 hS0 hS1 hS2 e0 q0 q1 q2 hb
  go_wp2_with fail
  generalize (W.alloc (.cells #[.int .i64 x0, .int .i64 x1, .int .i64 x2] 102)).drew = V at *
  generalize W.heap.size = X at *
  have c0 := pX.cell 0
  have c1 := pX.cell 1
  have c2 := pX.cell 2
  simp only [List.getElem?_cons_zero, List.getElem?_cons_succ] at c0 c1 c2
  have hdr : Below V.heap.size V V.drew := by go_grown
  refine wp_region_held_drew (S := (fun w' => w'.cell? ⟨g, k * 4 + 1, none⟩ = some (.int .i64 p) ∧ w'.cell? ⟨X, 0, none⟩ = some (.int .i64 x0) ∧ w'.cell? ⟨X, 1, none⟩ = some (.int .i64 x1) ∧ w'.cell? ⟨X, 2, none⟩ = some (.int .i64 x2))) (by kernel_rfl) ⟨e1, c0, c1, c2⟩ (fun hS0 => ?_)
  refine wpAnyH_take (i := 0) (oi := { dst := some 22, op := _, type := _, pos := _, after := _, guard := _ }) (v := .int .i64 (k : Int)) rfl (by kernel_rfl) (by kernel_rfl) (by kernel_rfl) (fun _ _ _ h => h) (Or.inl ⟨by rfl, ?_⟩) (by assumption) ?_
  · (intro w' hSw; (try dsimp only at hSw); go_simp; try rfl)
  simp only [Act.put, List.setIfInBounds_toArray, List.set_cons_zero, List.set_cons_succ]
  refine wpAnyH_take (i := 1) (oi := { dst := some 23, op := _, type := _, pos := _, after := _, guard := _ }) (v := .pointer (some ⟨g, k * 4, none⟩)) rfl (by kernel_rfl) (by kernel_rfl) (by kernel_rfl) (fun _ _ _ h => h) (Or.inl ⟨by rfl, ?_⟩) (by assumption) ?_
  · (intro w' hSw; (try dsimp only at hSw); go_simp; try rfl)
  simp only [Act.put, List.setIfInBounds_toArray, List.set_cons_zero, List.set_cons_succ]
  refine wpAnyH_take (i := 2) (oi := { dst := some 24, op := _, type := _, pos := _, after := _, guard := _ }) (v := .pointer (some ⟨g, k * 4, none⟩)) rfl (by kernel_rfl) (by kernel_rfl) (by kernel_rfl) (fun _ _ _ h => h) (Or.inl ⟨by rfl, ?_⟩) (by assumption) ?_
  · (intro w' hSw; (try dsimp only at hSw); go_simp; try rfl)
  simp only [Act.put, List.setIfInBounds_toArray, List.set_cons_zero, List.set_cons_succ]
  refine wpAnyH_take (i := 3) (oi := { dst := some 25, op := _, type := _, pos := _, after := _, guard := _ }) (v := .pointer (some ⟨g, k * 4 + 1, none⟩)) rfl (by kernel_rfl) (by kernel_rfl) (by kernel_rfl) (fun _ _ _ h => h) (Or.inl ⟨by rfl, ?_⟩) (by assumption) ?_
  · (intro w' hSw; (try dsimp only at hSw); go_simp; try rfl)
  simp only [Act.put, List.setIfInBounds_toArray, List.set_cons_zero, List.set_cons_succ]
  refine wpAnyH_take (i := 4) (oi := { dst := some 26, op := _, type := _, pos := _, after := _, guard := _ }) (v := .int .i64 p) rfl (by kernel_rfl) (by kernel_rfl) (by kernel_rfl) (fun _ _ _ h => h) (Or.inl ⟨by rfl, ?_⟩) (by assumption) ?_
  · (intro w' hSw; (try dsimp only at hSw); go_simp; try rfl)
  simp only [Act.put, List.setIfInBounds_toArray, List.set_cons_zero, List.set_cons_succ]
  refine wpAnyH_take (i := 5) (oi := { dst := some 27, op := _, type := _, pos := _, after := _, guard := _ }) (v := .pointer (some ⟨X, 0, none⟩)) rfl (by kernel_rfl) (by kernel_rfl) (by kernel_rfl) (fun _ _ _ h => h) (Or.inl ⟨by rfl, ?_⟩) (by assumption) ?_
  · (intro w' hSw; (try dsimp only at hSw); go_simp; try rfl)
  simp only [Act.put, List.setIfInBounds_toArray, List.set_cons_zero, List.set_cons_succ]
  refine wpAnyH_take (i := 6) (oi := { dst := some 28, op := _, type := _, pos := _, after := _, guard := _ }) (v := .int .i64 x0) rfl (by kernel_rfl) (by kernel_rfl) (by kernel_rfl) (fun _ _ _ h => h) (Or.inl ⟨by rfl, ?_⟩) (by assumption) ?_
  · (intro w' hSw; (try dsimp only at hSw); go_simp; try rfl)
  simp only [Act.put, List.setIfInBounds_toArray, List.set_cons_zero, List.set_cons_succ]
  refine wpAnyH_take (i := 7) (oi := { dst := some 29, op := _, type := _, pos := _, after := _, guard := _ }) (v := .agg #[.int .i64 x0, .int .i64 x1, .int .i64 x2]) rfl (by kernel_rfl) (by kernel_rfl) (by kernel_rfl) (fun _ _ _ h => h) (Or.inl ⟨by rfl, ?_⟩) (by assumption) ?_
  · (intro w' hSw; (try dsimp only at hSw); go_simp; try rfl)
  simp only [Act.put, List.setIfInBounds_toArray, List.set_cons_zero, List.set_cons_succ]
  refine wpAnyH_ready (rs := [8]) (by kernel_rfl) (by simp) ?_
  refine AllReadyH.cons (o := { dst := some 30, op := _, type := _, pos := _, after := _, guard := _ }) rfl (fun K hK => ?_) AllReadyH.nil
  go_simp
  refine (kO _).mono ?_
  rintro e U ⟨rfl, hb8⟩
  go_wp2_with fail
  refine hK.out _ _ ?_ (fun hS1 => ?_)
  · exact ⟨cells_kept hb8 _ _ hS0.1, cells_kept hb8 _ _ hS0.2.1, cells_kept hb8 _ _ hS0.2.2.1, cells_kept hb8 _ _ hS0.2.2.2⟩
  clear hK
  refine wpAnyH_take (i := 9) (oi := { dst := some 31, op := _, type := _, pos := _, after := _, guard := _ }) (v := .agg #[.int .i64 (k : Int), .int .i64 p, .int .i64 x0, .int .i64 ob]) rfl (by kernel_rfl) (by kernel_rfl) (by kernel_rfl) (fun _ _ _ h => h) (Or.inl ⟨by rfl, ?_⟩) (by assumption) ?_
  · (intro w' hSw; (try dsimp only at hSw); go_simp; try rfl)
  simp only [Act.put, List.setIfInBounds_toArray, List.set_cons_zero, List.set_cons_succ]
  replace pR := pR.below (bel_trans hdr hb8)
  replace bw := bel_trans bw (bel_trans hdr hb8)
  refine wpAnyH_ready (rs := [10]) (by kernel_rfl) (by simp) ?_
  refine AllReadyH.cons (o := { dst := none, op := _, type := _, pos := _, after := _, guard := _ }) rfl (fun K hK => ?_) AllReadyH.nil
  refine step_store_blkD rfl 38 _ _ rfl w.heap.size [.int .i64 (k : Int), .int .i64 p, .int .i64 x0, .int .i64 ob] rfl rfl pR (by kernel_rfl) rfl rfl ?_
  intro U2 pR2 g2
  have bz := bw.grown g2 bw.size (fun j hj => by cases hj; omega)
  have n1 : (some g : Option Nat) ≠ some w.heap.size := by simp; omega
  have n2 : (some X : Option Nat) ≠ some w.heap.size := by simp; omega
  refine hK.out _ _ ⟨cell_grownB g2 hS1.1 n1, cell_grownB g2 hS1.2.1 n2, cell_grownB g2 hS1.2.2.1 n2, cell_grownB g2 hS1.2.2.2 n2⟩ (fun hS2 => ?_)
  clear hK
  try simp only [Act.put, List.setIfInBounds_toArray, List.set_cons_zero, List.set_cons_succ]
  refine wpAnyH_done (by kernel_rfl) ?_ _
  clear hS0 hS1 hS2 n1 n2 g2 bw pR hdr hb8 kO c0 c1 c2 e1 pX
  go_wp2_with fail
  refine bodyPost_ret (results_blk1 Tryz.results37 _ _ _ _ _ _ rfl pR2.out Tryz.underlying38 rfl (by kernel_rfl)) rfl ?_
  exact ⟨rfl, bz⟩

theorem okI_mid {x : I3} (h : okI x = true) : -1000 ≤ x.2.1 ∧ x.2.1 ≤ 1000 := by
  rcases okI_parts h with ⟨a, q, rfl, ha, hq⟩ | ⟨q, a, rfl, hq, ha⟩ | ⟨a, z, rfl, ha⟩ | ⟨a, z, rfl, ha, hz⟩ | ⟨a, z, rfl, ha⟩ | ⟨a, z, rfl, ha⟩ | ⟨a, z, rfl, ha, hz⟩ | ⟨a, z, rfl, ha⟩ <;> (simp only; omega)
theorem event_is {w : World} {g : Nat} {cs : Sl × Sl × Sl} {rows : List (List I3)} {m : V4} (h : MachAt w g cs rows m) (hp : progOk rows = true) (hs : shapeOk m = true) {k : Nat} (hk : k < 3) (hd : doneM rows m k = false) :
    Calls Tryz.prog 37 #[.pointer (some ⟨g, 0, none⟩), .int .i64 k] w fun e w' => e = .returned (.agg #[.int .i64 (eventM rows m k).1, .int .i64 (eventM rows m k).2.1, .int .i64 (eventM rows m k).2.2.1, .int .i64 (eventM rows m k).2.2.2]) ∧ Below w.heap.size w w' := by
  obtain ⟨p, ep, hlt, hi, hok⟩ := at_ins hp hs hk hd
  have hl6 := (codeM_len hp hk).1
  have e0 := h.code hk
  have e1 := h.pc hk
  rw [ep] at e1
  obtain ⟨b, off, ea, hpn, q0, q1, q2⟩ := ins_at (h.2 k hk) hlt
  rw [← hi] at q0 q1 q2
  rw [ea] at e0
  have hm := okI_mid hok
  unfold eventM
  rw [ep]
  generalize insM rows m k = x at *
  obtain ⟨x0, x1, x2⟩ := x
  exact event_raw g k p b off _ _ x0 x1 x2 w hk hpn (by omega) hm e0 e1 q0 q1 q2

end Go.Proofs.YtmhngodbnoonhaaGreatDoor


/-
  The program's EventsOf.
-/
namespace Go.Proofs.YtmhngodbnoonhaaGreatDoor
open Go.RowKit
set_option linter.unusedVariables false
set_option linter.unusedSimpArgs false

/-- The events of a schedule. -/
def evsM (rows : List (List I3)) : V4 → List Int → List I4
  | _, [] => []
  | m, k :: ks => eventM rows m k.toNat :: evsM rows (goM rows m k).1 ks
/-- What EventsOf tells, and its code. -/
def evE (rows : List (List I3)) (ks : List Int) : List I4 := if 4096 < ks.length then [] else if progOk rows then (if (runI rows zeroV [] ks).2.2 = 0 then evsM rows zeroV ks else []) else []
def evK (rows : List (List I3)) (ks : List Int) : Int := if 4096 < ks.length then 2 else if progOk rows then (runI rows zeroV [] ks).2.2 else 1
def EvGot (e : Ending) (w : World) (B : Nat) (es : List I4) (c : Int) : Prop := ∃ v, e = .returned (.tuple #[v, .int .i64 c]) ∧ w.ownsRow B 38 4 v es.length (flat4 es)
theorem info_event : (Tryz.prog.info? 38).map (fun i => (i.zero, i.size, i.bytes)) = some (some (.agg #[.int .i64 0, .int .i64 0, .int .i64 0, .int .i64 0]), 4, 32) := by kernel_rfl
theorem runI_one (rows : List (List I3)) (m : V4) (fs : List I3) (k : Int) : runI rows m fs [k] = if haltM rows m k = 0 then ((goM rows m k).1, fs ++ ownM rows m k, 0) else (m, fs, haltM rows m k) := by
  show (if haltM rows m k = 0 then _ else _) = _
  rfl
theorem machR_app (fv c0 c1 c2 : Value) (m : V4) : Rp.machR fv c0 c1 c2 m = machCells c0 c1 c2 m ++ [fv] := rfl
theorem Blk.rangeE {w : World} {g t : Nat} {cs xs : List Value} (h : Blk w g t (cs ++ xs)) : w.rangeAt g 0 cs := fun j v hj => by
  rw [Nat.zero_add, h.cell, List.getElem?_append_left (List.getElem?_eq_some_iff.1 hj).1]
  exact hj
theorem four_at {w : World} {G : Nat} {a b c d : Value} (h : Blk w G 38 [a, b, c, d]) : ∀ j u, [a, b, c, d][j]? = some u → w.cell? ((⟨G, 0, none⟩ : Addr).add j) = some u := by
  intro j u hj
  rw [Addr.add_mid, Nat.zero_add, h.cell]
  exact hj
theorem four_one (a b c d : Int) : ∀ u ∈ [Value.int .i64 a, Value.int .i64 b, Value.int .i64 c, Value.int .i64 d], u.oneCell' = true := by
  intro u hu
  simp at hu
  rcases hu with rfl | rfl | rfl | rfl <;> rfl
theorem ints_cellE {w : World} {a : Option Addr} {n c : Nat} {ks : List Int} (h : Ints .i64 w a n c ks) {i : Nat} (hi : i < n) : ∃ b off, a = some ⟨b, off, none⟩ ∧ w.cell? ⟨b, off + i, none⟩ = some (.int .i64 (ks.getD i 0)) ∧ b < w.heap.size := by
  obtain ⟨h1, h2, h3, h4⟩ := h
  rcases h4 with h4 | ⟨b, off, ha, hl, hc⟩
  · omega
  · exact ⟨b, off, ha, hc i hi, hl⟩
theorem ownM_lenE (rows : List (List I3)) (m : V4) (k : Int) : (ownM rows m k).length ≤ 1 := by unfold ownM; split <;> simp
/-- On the way. -/
def OnEv (w wr : World) (g : Nat) (cs : Sl × Sl × Sl) (rows : List (List I3)) (ks : List Int) (n i : Nat) (fin : V4 × List I3 × Int) (tot : List I4) (m : V4) (fs : List I3) (es : List I4) (v : Value) : Prop :=
  i ≤ n ∧ runI rows m fs (ks.drop i) = fin ∧ shapeOk m = true ∧ RanTo wr g w.heap.size cs m fs ∧ Below w.heap.size w wr ∧ wr.ownsRow w.heap.size 38 4 v es.length (flat4 es) ∧ es ++ evsM rows m (ks.drop i) = tot ∧ fs.length ≤ i ∧ es.length = i

set_option maxHeartbeats 800000 in
set_option maxRecDepth 100000 in
theorem implEventsOf_ok (a : Option Addr) (cap : Nat) (rows : List (List I3)) (la : Option Addr) (n c : Nat) (ks : List Int) (w : World) (hC : Codes w a 3 cap rows) (hV : VmShape w) (hp : progOk rows = true) (hL : Ints .i64 w la n c ks) (hn : ¬ 4096 < n) :
    Calls Tryz.prog 8 #[.agg #[.slice a 3 cap], .slice la n c] w fun e w' => EvGot e w' w.heap.size (if (runI rows zeroV [] ks).2.2 = 0 then evsM rows zeroV ks else []) (runI rows zeroV [] ks).2.2 ∧ Below w.heap.size w w' := by
  obtain ⟨i0, hi9, hz0, hz1, hz2⟩ := info_parts info_event
  have hn' : ¬ (4096 : Int) < (n : Int) := by omega
  have hll := hL.1
  obtain ⟨_, cs, hR⟩ := hC.rowsAt hp
  have kN := fun W (b : Below w.heap.size w W) => newReplay_ok (hC.below b) (hV.below b) hp (hR.below b)
  have HF0 : Hid (runI rows zeroV [] (ks.drop 0) = runI rows zeroV [] ks) := rfl
  have HT0 : Hid ([] ++ evsM rows zeroV (ks.drop 0) = evsM rows zeroV ks) := rfl
  obtain ⟨fin, hfin⟩ : ∃ fin, fin = runI rows zeroV [] ks := ⟨_, rfl⟩
  obtain ⟨tot, htot⟩ : ∃ tot, tot = evsM rows zeroV ks := ⟨_, rfl⟩
  rw [← hfin] at HF0 ⊢
  rw [← htot] at HT0 ⊢
  obtain ⟨es9, hes⟩ : ∃ es9, es9 = (if fin.2.2 = 0 then tot else []) := ⟨_, rfl⟩
  obtain ⟨cd9, hcd⟩ : ∃ cd9, cd9 = fin.2.2 := ⟨_, rfl⟩
  rw [← hes, ← hcd]
  have HE : Hid (es9 = (if fin.2.2 = 0 then tot else []) ∧ cd9 = fin.2.2) := ⟨hes, hcd⟩
  clear hfin htot hes hcd
  have bw : Below w.heap.size w (w.alloc (.cells #[.slice a 3 cap] 25)) := by go_grown
  have pP : Blk (w.alloc (.cells #[.slice a 3 cap] 25)) w.heap.size 25 [.slice a 3 cap] := blkAt _ _ _ rfl
  clear hC hV
  go_enter Tryz.func8, Tryz.ntmps8
  go_wp2_with fail
  generalize (w.alloc (.cells #[.slice a 3 cap] 25)) = U at *
  go_wp2_with (first | refine wpList_load_blk rfl 25 _ rfl w.heap.size rfl pP _ Tryz.underlying25 rfl (by kernel_rfl) ?_)
  refine (kN _ bw).mono ?_
  rintro e w1 ⟨rfl, hb⟩
  replace bw := bel_trans bw hb
  have pN := Blk.new w1 73 [.slice none 0 0, .int .i64 0, .int .i64 0, .int .i64 0, .slice none 0 0, .int .i64 0, .int .i64 0, .int .i64 0, .slice none 0 0, .int .i64 0, .int .i64 0, .int .i64 0, .int .i64 0, .int .i64 0, .int .i64 0, .int .i64 0, .int .i64 0, .int .i64 0, .slice none 0 0]
  have ha : Below w1.heap.size w1 (w1.alloc (.cells #[.slice none 0 0, .int .i64 0, .int .i64 0, .int .i64 0, .slice none 0 0, .int .i64 0, .int .i64 0, .int .i64 0, .slice none 0 0, .int .i64 0, .int .i64 0, .int .i64 0, .int .i64 0, .int .i64 0, .int .i64 0, .int .i64 0, .int .i64 0, .int .i64 0, .slice none 0 0] 73)) := by go_grown
  have hgw : w.heap.size ≤ w1.heap.size := bw.size
  clear kN hb pP
  go_wp2_with (refine wpList_store_blk rfl 73 _ _ rfl w1.heap.size (Rp.machR (.slice none 0 0) cs.1.val cs.2.1.val cs.2.2.val zeroV) rfl rfl pN (by kernel_rfl) rfl rfl ?_)
  intro W9 pM g1
  replace bw := (bel_trans bw ha).grown g1 (by simp; omega) (fun x hx => by cases hx; omega)
  have st : OnEv w W9 w1.heap.size cs rows ks n 0 fin tot zeroV [] [] (.slice none 0 0) := ⟨by omega, HF0.out, zero_shape, ⟨_, pM.out, World.ownsRow_nil _ _ _ _⟩, bw, World.ownsRow_nil _ _ _ _, HT0.out, by simp, rfl⟩
  clear g1 ha pN pM HF0 HT0 bw
  generalize w1.heap.size = g at *
  go_wp2_with fail
  go_loopw [8, 26] (fun so si wr => ∃ (i : Nat) (m : V4) (fs : List I3) (es : List I4) (vo : Value), vo = so ∧ si = .int .i64 i ∧ OnEv w wr g cs rows ks n i fin tot m fs es vo) (fun _ si _ => n - (intOf si).toNat)
  case atStart => exact ⟨0, _, _, _, _, rfl, rfl, st⟩
  case round =>
    clear st
    obtain ⟨i, m, fs, es, so, rfl, rfl, hi, hr, hs, ⟨fv, hM, hF⟩, bw, q, ht, hfl, hel⟩ := hrel
    by_cases hlt : i < n
    · obtain ⟨lb, lo, rfl, hc, hlb⟩ := ints_cellE hL hlt
      replace hc := cells_kept bw _ _ hc
      have e9 : ks.drop i = ks.getD i 0 :: ks.drop (i + 1) := by rw [List.drop_eq_getElem_cons (by omega)]; simp [List.getD, show i < ks.length by omega]
      have HR : Hid (runI rows m fs (ks.getD i 0 :: ks.drop (i + 1)) = fin) := by rw [Hid, ← e9]; exact hr
      have HT : Hid (es ++ (eventM rows m (ks.getD i 0).toNat :: evsM rows (goM rows m (ks.getD i 0)).1 (ks.drop (i + 1))) = tot) := by rw [e9] at ht; exact ht
      have hlt' : (i : Int) < (n : Int) := by omega
      have hi0 : (0 : Int) ≤ (i : Int) := by omega
      generalize ks.getD i 0 = kk at *
      clear hr ht e9
      have hgl := hM.lt
      have hrg := Blk.rangeE (machR_app fv cs.1.val cs.2.1.val cs.2.2.val m ▸ hM)
      have pN := Blk.new wr 71 [.slice none 0 0, .int .i64 0, .int .i64 0, .int .i64 0, .slice none 0 0, .int .i64 0, .int .i64 0, .int .i64 0, .slice none 0 0, .int .i64 0, .int .i64 0, .int .i64 0, .int .i64 0, .int .i64 0, .int .i64 0, .int .i64 0, .int .i64 0, .int .i64 0]
      have ha : Below wr.heap.size wr (wr.alloc (.cells #[.slice none 0 0, .int .i64 0, .int .i64 0, .int .i64 0, .slice none 0 0, .int .i64 0, .int .i64 0, .int .i64 0, .slice none 0 0, .int .i64 0, .int .i64 0, .int .i64 0, .int .i64 0, .int .i64 0, .int .i64 0, .int .i64 0, .int .i64 0, .int .i64 0] 71)) := by go_grown
      go_wp2_with (first | refine wpList_load_mid rfl 71 _ rfl g 0 rfl (machCells cs.1.val cs.2.1.val cs.2.2.val m) _ hrg Tryz.underlying71 rfl (by kernel_rfl) ?_ | refine wpList_store_blk rfl 71 _ _ rfl wr.heap.size (machCells cs.1.val cs.2.1.val cs.2.2.val m) rfl rfl pN (by kernel_rfl) rfl rfl ?_)
      intro W pW g1
      have ng : (some wr.heap.size : Option Nat) ≠ some g := by simp; omega
      have hF1 := (owns_below hF ha).kept g1 (.inr (own_ne_blkR (owns_below hF ha) pN (by decide)).symm)
      have q1 := (owns_below q ha).kept g1 (.inr (own_ne_blkR (owns_below q ha) pN (by decide)).symm)
      have hM1 := (hM.below ha).kept g1 ng
      have bw1 := (bel_trans bw ha).grown g1 (Nat.le_trans bw.size ha.size) (fun x hx => by cases hx; exact bw.size)
      have hWg : w.heap.size ≤ wr.heap.size := bw.size
      clear hrg pN ha g1 ng hM hF q bw hc
      have pW2 := pW.out
      clear pW
      generalize wr.heap.size = gw at *
      have ha : Below W.heap.size W (W.alloc (.cells #[.int .i64 kk] 3)) := by go_grown
      have pK : Blk (W.alloc (.cells #[.int .i64 kk] 3)) W.heap.size 3 [.int .i64 kk] := blkAt _ _ _ rfl
      have hLk : ListAt (W.alloc (.cells #[.int .i64 kk] 3)) w.heap.size (some ⟨W.heap.size, 0, none⟩) 1 1 [kk] := ⟨⟨rfl, by omega, by unfold maxLen; omega, .inr ⟨_, _, rfl, pK.lt, fun t ht9 => by
        obtain rfl : t = 0 := by omega
        simp⟩⟩, fun b o hb _ => by cases hb; exact .inr ⟨_, _, pK⟩⟩
      have kR := run_is (w0 := w) hR (bel_trans bw1 ha) hgw hp hs ⟨fv, hM1.below ha, owns_below hF1 ha⟩ hLk (by omega)
      rw [runI_one] at kR
      replace q1 := owns_below q1 ha
      replace pW2 := pW2.below ha
      clear ha pK hLk hM1 hF1 bw1
      by_cases hz : haltM rows m kk = 0
      · rw [if_pos hz] at kR
        simp only at kR
        obtain ⟨h0, h2, hd, hcn⟩ := halt_can hz
        have hs2 := goM_shape hp hs hz
        have hr2 : runI rows (goM rows m kk).1 (fs ++ ownM rows m kk) (ks.drop (i + 1)) = fin := by
          have := HR.out
          rw [show runI rows m fs (kk :: ks.drop (i + 1)) = runI rows (goM rows m kk).1 (fs ++ ownM rows m kk) (ks.drop (i + 1)) by show (if haltM rows m kk = 0 then _ else _) = _; rw [if_pos hz]] at this
          exact this
        obtain ⟨k, rfl⟩ : ∃ k : Nat, kk = k := ⟨kk.toNat, by omega⟩
        rw [Int.toNat_natCast] at hd
        have hk : k < 3 := by omega
        have ht2 := HT.out
        rw [Int.toNat_natCast] at ht2
        have hol := ownM_lenE rows m (k : Int)
        clear HR HT hz h0 h2 hcn
        go_wp2_with fail
        refine kR.mono ?_
        rintro e w3 ⟨rfl, hRan, bw3, kp⟩
        replace q1 := kp.owns q1 (by decide) (by decide)
        replace pW2 := kp.blk pW2 (by decide) (by decide)
        have kV := event_is ((hR.below bw3).mach pW2) hp hs hk hd
        obtain ⟨ev, hev⟩ : ∃ ev, ev = eventM rows m k := ⟨_, rfl⟩
        rw [← hev] at kV ht2
        obtain ⟨v0, v1, v2, v3⟩ := ev
        simp only at kV
        clear kR kp hd hev
        go_wp2_with fail
        refine kV.mono ?_
        rintro e w4 ⟨rfl, hb⟩
        have bw4 := bel_trans bw3 hb
        have hRan4 : RanTo w4 g w.heap.size cs (goM rows m k).1 (fs ++ ownM rows m k) := by obtain ⟨f9, h9, h8⟩ := hRan; exact ⟨f9, h9.below hb, owns_below h8 hb⟩
        replace q1 := owns_below q1 hb
        clear kV hb pW2 hRan bw3
        have ha : Below w4.heap.size w4 (w4.alloc (.cells #[.int .i64 v0, .int .i64 v1, .int .i64 v2, .int .i64 v3] 38)) := by go_grown
        have pV : Blk (w4.alloc (.cells #[.int .i64 v0, .int .i64 v1, .int .i64 v2, .int .i64 v3] 38)) w4.heap.size 38 [.int .i64 v0, .int .i64 v1, .int .i64 v2, .int .i64 v3] := blkAt _ _ _ rfl
        have hsz4 := bw4.size
        go_wp2_with (at_builtin; refine wpList_append_own _ rfl _ _ 29 rfl w.heap.size 38 i0 (.agg #[.int .i64 0, .int .i64 0, .int .i64 0, .int .i64 0]) 4 32 Tryz.underlying29 hi9 hz0 hz1 hz2 rfl (by decide) _ _ _ rfl (q1.alloc _) ⟨w4.heap.size, 0, none⟩ 1 1 [.int .i64 v0, .int .i64 v1, .int .i64 v2, .int .i64 v3] rfl rfl (four_at pV) (four_one _ _ _ _) ?c3 ?c4 ?c5 ?_)
        case c3 => unfold maxLen; omega
        case c4 => omega
        case c5 => simp; omega
        intro v9 wn q9 g9 _
        have R : wn.ownsRow w.heap.size 38 4 v9 (es ++ [(v0, v1, v2, v3)]).length (flat4 (es ++ [(v0, v1, v2, v3)])) := by
          rw [List.length_append, flat4_snoc, hel]
          exact q9
        have bn := (bel_trans bw4 ha).grown g9 (Nat.le_trans hsz4 ha.size) (fun k hk => (q1.lt k hk).1)
        have hRn : RanTo wn g w.heap.size cs (goM rows m k).1 (fs ++ ownM rows m k) := by
          obtain ⟨f9, h9, h8⟩ := hRan4
          have q1a := owns_below q1 ha
          exact ⟨f9, (h9.below ha).kept g9 (own_ne_blkR q1a (h9.below ha) (by decide)).symm, (owns_below h8 ha).kept g9 (owns_ne (owns_below h8 ha) q1a (by decide))⟩
        have st2 : OnEv w wn g cs rows ks n (i + 1) fin tot (goM rows m k).1 (fs ++ ownM rows m k) (es ++ [(v0, v1, v2, v3)]) v9 := ⟨by omega, hr2, hs2, hRn, bn, R, by rw [List.append_assoc]; exact ht2, by rw [List.length_append]; omega, by rw [List.length_append]; simp; omega⟩
        clear R bn hRn q9 g9 q1 ha pV hRan4 bw4 hr2 hs2 ht2 hs
        go_wp2
        go_roundw
        case rel => exact ⟨i + 1, _, _, _, _, rfl, by go_num, st2⟩
        case measure => simp [intOf]; omega
      · rw [if_neg hz] at kR
        simp only at kR
        have hfe : fin = (m, fs, haltM rows m kk) := by
          rw [← HR.out]
          show (if haltM rows m kk = 0 then _ else _) = _
          rw [if_neg hz]
        have hne : (haltM rows m kk != 0) = true := by simp [hz]
        have HZ : Hid (es9 = [] ∧ cd9 = haltM rows m kk) := by
          obtain ⟨h8, h9⟩ := HE.out
          rw [hfe] at h8 h9
          exact ⟨h8.trans (if_neg hz), h9⟩
        clear HR HT hz hfe HE
        go_wp2_with fail
        refine kR.mono ?_
        rintro e w3 ⟨rfl, hRan, bw3, kp⟩
        clear kR kp hRan q1 pW2
        go_wp2
        go_ret2
        rw [HZ.out.1, HZ.out.2]
        exact ⟨⟨_, rfl, World.ownsRow_nil _ _ _ _⟩, bw3⟩
    · obtain rfl : i = n := by omega
      have hfe : fin = (m, fs, 0) := by rw [← hr, List.drop_of_length_le (by omega)]; rfl
      have hte : es = tot := by rw [← ht, List.drop_of_length_le (by omega)]; simp [evsM]
      have HZ : Hid (es9 = es ∧ cd9 = 0) := by
        obtain ⟨h8, h9⟩ := HE.out
        rw [hfe] at h8 h9
        exact ⟨h8.trans ((if_pos rfl).trans hte.symm), h9⟩
      clear hr ht hfe hte HE
      go_wp2
      go_ret2
      rw [HZ.out.1, HZ.out.2]
      exact ⟨⟨_, rfl, q⟩, bw⟩
end Go.Proofs.YtmhngodbnoonhaaGreatDoor


/-
  The specification's l05Event.
-/
namespace Go.Proofs.YtmhngodbnoonhaaGreatDoor
open Go.RowKit
set_option linter.unusedVariables false
set_option linter.unusedSimpArgs false

set_option maxHeartbeats 1600000 in
set_option maxRecDepth 100000 in
theorem l05Event_raw (b9 off9 cap b0 o0 c0 : Nat) (a1 : Option Addr) (n1 c1 : Nat) (a2 : Option Addr) (n2 c2 : Nat) (a3 : Option Addr) (n3 c3 : Nat) (k p b off n c : Nat) (x0 x1 x2 : Int) (w : World) (hk : k < 3) (hp : p < n) (hx : -1000 ≤ x1 ∧ x1 ≤ 1000)
    (f0 : w.cell? ⟨b9, off9 + k, none⟩ = some (.slice (some ⟨b, off, none⟩) n c)) (e1 : w.cell? ⟨b0, o0 + k, none⟩ = some (.int .i64 p)) (q0 : w.cell? ⟨b, off + p * 3, none⟩ = some (.int .i64 x0)) (q1 : w.cell? ⟨b, off + p * 3 + 1, none⟩ = some (.int .i64 x1)) (q2 : w.cell? ⟨b, off + p * 3 + 2, none⟩ = some (.int .i64 x2)) :
    Calls Tryz.prog 68 #[.agg #[.slice (some ⟨b9, off9, none⟩) 3 cap], .agg #[.slice (some ⟨b0, o0, none⟩) 3 c0, .slice a1 n1 c1, .slice a2 n2 c2, .slice a3 n3 c3], .int .i64 k] w fun e w' => e = .returned (.agg #[.int .i64 k, .int .i64 p, .int .i64 x0, .int .i64 (objM (x0, x1, x2))]) ∧ Below w.heap.size w w' := by
  have hk3 : (k : Int) < 3 := by omega
  have hpn : (p : Int) < (n : Int) := by omega
  have kO := l05Obj_is x0 x1 x2 hx
  generalize objM (x0, x1, x2) = ob at *
  have hl0 : b0 < w.heap.size := World.block_lt_of_cell? _ _ e1
  have bw : Below w.heap.size w (((w.alloc (.cells #[.slice (some ⟨b9, off9, none⟩) 3 cap] 25)).alloc (.cells #[.slice (some ⟨b0, o0, none⟩) 3 c0, .slice a1 n1 c1, .slice a2 n2 c2, .slice a3 n3 c3] 33)).alloc (.cells #[.int .i64 0, .int .i64 0, .int .i64 0, .int .i64 0] 38)) := by go_grown
  have pP : Blk (((w.alloc (.cells #[.slice (some ⟨b9, off9, none⟩) 3 cap] 25)).alloc (.cells #[.slice (some ⟨b0, o0, none⟩) 3 c0, .slice a1 n1 c1, .slice a2 n2 c2, .slice a3 n3 c3] 33)).alloc (.cells #[.int .i64 0, .int .i64 0, .int .i64 0, .int .i64 0] 38)) w.heap.size 25 [.slice (some ⟨b9, off9, none⟩) 3 cap] := blkOld _ (blkOld _ (blkAt _ _ _ rfl))
  have pS : Blk (((w.alloc (.cells #[.slice (some ⟨b9, off9, none⟩) 3 cap] 25)).alloc (.cells #[.slice (some ⟨b0, o0, none⟩) 3 c0, .slice a1 n1 c1, .slice a2 n2 c2, .slice a3 n3 c3] 33)).alloc (.cells #[.int .i64 0, .int .i64 0, .int .i64 0, .int .i64 0] 38)) (w.heap.size + 1) 33 [.slice (some ⟨b0, o0, none⟩) 3 c0, .slice a1 n1 c1, .slice a2 n2 c2, .slice a3 n3 c3] := blkOld _ (blkAt _ _ _ (by simp))
  have pR : Blk (((w.alloc (.cells #[.slice (some ⟨b9, off9, none⟩) 3 cap] 25)).alloc (.cells #[.slice (some ⟨b0, o0, none⟩) 3 c0, .slice a1 n1 c1, .slice a2 n2 c2, .slice a3 n3 c3] 33)).alloc (.cells #[.int .i64 0, .int .i64 0, .int .i64 0, .int .i64 0] 38)) (w.heap.size + 2) 38 [.int .i64 0, .int .i64 0, .int .i64 0, .int .i64 0] := blkAt _ _ _ (by simp)
  replace f0 := cells_kept bw _ _ f0
  replace e1 := cells_kept bw _ _ e1
  replace q0 := cells_kept bw _ _ q0
  replace q1 := cells_kept bw _ _ q1
  replace q2 := cells_kept bw _ _ q2
  have cP := pP.cell 0
  have cS := pS.cell 0
  simp only [List.getElem?_cons_zero] at cP cS
  go_enter Tryz.func68, Tryz.ntmps68
  go_wp2_with fail
  have hX9 : w.heap.size + 2 < (((w.alloc (.cells #[.slice (some ⟨b9, off9, none⟩) 3 cap] 25)).alloc (.cells #[.slice (some ⟨b0, o0, none⟩) 3 c0, .slice a1 n1 c1, .slice a2 n2 c2, .slice a3 n3 c3] 33)).alloc (.cells #[.int .i64 0, .int .i64 0, .int .i64 0, .int .i64 0] 38)).heap.size := pR.lt
  generalize (((w.alloc (.cells #[.slice (some ⟨b9, off9, none⟩) 3 cap] 25)).alloc (.cells #[.slice (some ⟨b0, o0, none⟩) 3 c0, .slice a1 n1 c1, .slice a2 n2 c2, .slice a3 n3 c3] 33)).alloc (.cells #[.int .i64 0, .int .i64 0, .int .i64 0, .int .i64 0] 38)) = W at *
  refine wp_region_held_drew (S := (fun w' => w'.cell? ⟨w.heap.size, 0, none⟩ = some (.slice (some ⟨b9, off9, none⟩) 3 cap) ∧ w'.cell? ⟨b9, off9 + k, none⟩ = some (.slice (some ⟨b, off, none⟩) n c) ∧ w'.cell? ⟨w.heap.size + 1, 0, none⟩ = some (.slice (some ⟨b0, o0, none⟩) 3 c0) ∧ w'.cell? ⟨b0, o0 + k, none⟩ = some (.int .i64 p) ∧ w'.cell? ⟨b, off + p * 3, none⟩ = some (.int .i64 x0) ∧ w'.cell? ⟨b, off + p * 3 + 1, none⟩ = some (.int .i64 x1) ∧ w'.cell? ⟨b, off + p * 3 + 2, none⟩ = some (.int .i64 x2))) (by kernel_rfl) ⟨cP, f0, cS, e1, q0, q1, q2⟩ (fun hS0 => ?_)
  refine wpAnyH_take (i := 0) (oi := { dst := some 8, op := _, type := _, pos := _, after := _, guard := _ }) (v := .pointer (some ⟨w.heap.size, 0, none⟩)) rfl (by kernel_rfl) (by kernel_rfl) (by kernel_rfl) (fun _ _ _ h => h) (Or.inl ⟨by rfl, ?_⟩) (by assumption) ?_
  · (intro w' hSw; (try dsimp only at hSw); go_simp; try rfl)
  simp only [Act.put, List.setIfInBounds_toArray, List.set_cons_zero, List.set_cons_succ]
  refine wpAnyH_take (i := 1) (oi := { dst := some 9, op := _, type := _, pos := _, after := _, guard := _ }) (v := .slice (some ⟨b9, off9, none⟩) 3 cap) rfl (by kernel_rfl) (by kernel_rfl) (by kernel_rfl) (fun _ _ _ h => h) (Or.inl ⟨by rfl, ?_⟩) (by assumption) ?_
  · (intro w' hSw; (try dsimp only at hSw); go_simp; try rfl)
  simp only [Act.put, List.setIfInBounds_toArray, List.set_cons_zero, List.set_cons_succ]
  refine wpAnyH_take (i := 2) (oi := { dst := some 10, op := _, type := _, pos := _, after := _, guard := _ }) (v := .int .i64 (k : Int)) rfl (by kernel_rfl) (by kernel_rfl) (by kernel_rfl) (fun _ _ _ h => h) (Or.inl ⟨by rfl, ?_⟩) (by assumption) ?_
  · (intro w' hSw; (try dsimp only at hSw); go_simp; try rfl)
  simp only [Act.put, List.setIfInBounds_toArray, List.set_cons_zero, List.set_cons_succ]
  refine wpAnyH_take (i := 3) (oi := { dst := some 11, op := _, type := _, pos := _, after := _, guard := _ }) (v := .pointer (some ⟨b9, off9 + k, none⟩)) rfl (by kernel_rfl) (by kernel_rfl) (by kernel_rfl) (fun _ _ _ h => h) (Or.inl ⟨by rfl, ?_⟩) (by assumption) ?_
  · (intro w' hSw; (try dsimp only at hSw); go_simp; try rfl)
  simp only [Act.put, List.setIfInBounds_toArray, List.set_cons_zero, List.set_cons_succ]
  refine wpAnyH_take (i := 4) (oi := { dst := some 12, op := _, type := _, pos := _, after := _, guard := _ }) (v := .slice (some ⟨b, off, none⟩) n c) rfl (by kernel_rfl) (by kernel_rfl) (by kernel_rfl) (fun _ _ _ h => h) (Or.inl ⟨by rfl, ?_⟩) (by assumption) ?_
  · (intro w' hSw; (try dsimp only at hSw); go_simp; try rfl)
  simp only [Act.put, List.setIfInBounds_toArray, List.set_cons_zero, List.set_cons_succ]
  refine wpAnyH_take (i := 5) (oi := { dst := some 13, op := _, type := _, pos := _, after := _, guard := _ }) (v := .pointer (some ⟨w.heap.size + 1, 0, none⟩)) rfl (by kernel_rfl) (by kernel_rfl) (by kernel_rfl) (fun _ _ _ h => h) (Or.inl ⟨by rfl, ?_⟩) (by assumption) ?_
  · (intro w' hSw; (try dsimp only at hSw); go_simp; try rfl)
  simp only [Act.put, List.setIfInBounds_toArray, List.set_cons_zero, List.set_cons_succ]
  refine wpAnyH_take (i := 6) (oi := { dst := some 14, op := _, type := _, pos := _, after := _, guard := _ }) (v := .slice (some ⟨b0, o0, none⟩) 3 c0) rfl (by kernel_rfl) (by kernel_rfl) (by kernel_rfl) (fun _ _ _ h => h) (Or.inl ⟨by rfl, ?_⟩) (by assumption) ?_
  · (intro w' hSw; (try dsimp only at hSw); go_simp; try rfl)
  simp only [Act.put, List.setIfInBounds_toArray, List.set_cons_zero, List.set_cons_succ]
  refine wpAnyH_take (i := 7) (oi := { dst := some 15, op := _, type := _, pos := _, after := _, guard := _ }) (v := .int .i64 (k : Int)) rfl (by kernel_rfl) (by kernel_rfl) (by kernel_rfl) (fun _ _ _ h => h) (Or.inl ⟨by rfl, ?_⟩) (by assumption) ?_
  · (intro w' hSw; (try dsimp only at hSw); go_simp; try rfl)
  simp only [Act.put, List.setIfInBounds_toArray, List.set_cons_zero, List.set_cons_succ]
  refine wpAnyH_take (i := 8) (oi := { dst := some 16, op := _, type := _, pos := _, after := _, guard := _ }) (v := .pointer (some ⟨b0, o0 + k, none⟩)) rfl (by kernel_rfl) (by kernel_rfl) (by kernel_rfl) (fun _ _ _ h => h) (Or.inl ⟨by rfl, ?_⟩) (by assumption) ?_
  · (intro w' hSw; (try dsimp only at hSw); go_simp; try rfl)
  simp only [Act.put, List.setIfInBounds_toArray, List.set_cons_zero, List.set_cons_succ]
  refine wpAnyH_take (i := 9) (oi := { dst := some 17, op := _, type := _, pos := _, after := _, guard := _ }) (v := .int .i64 p) rfl (by kernel_rfl) (by kernel_rfl) (by kernel_rfl) (fun _ _ _ h => h) (Or.inl ⟨by rfl, ?_⟩) (by assumption) ?_
  · (intro w' hSw; (try dsimp only at hSw); go_simp; try rfl)
  simp only [Act.put, List.setIfInBounds_toArray, List.set_cons_zero, List.set_cons_succ]
  refine wpAnyH_take (i := 10) (oi := { dst := some 18, op := _, type := _, pos := _, after := _, guard := _ }) (v := .pointer (some ⟨b, off + p * 3, none⟩)) rfl (by kernel_rfl) (by kernel_rfl) (by kernel_rfl) (fun _ _ _ h => h) (Or.inl ⟨by rfl, ?_⟩) (by assumption) ?_
  · (intro w' hSw; (try dsimp only at hSw); go_simp; try rfl)
  simp only [Act.put, List.setIfInBounds_toArray, List.set_cons_zero, List.set_cons_succ]
  refine wpAnyH_take (i := 11) (oi := { dst := some 19, op := _, type := _, pos := _, after := _, guard := _ }) (v := .agg #[.int .i64 x0, .int .i64 x1, .int .i64 x2]) rfl (by kernel_rfl) (by kernel_rfl) (by kernel_rfl) (fun _ _ _ h => h) (Or.inl ⟨by rfl, ?_⟩) (by assumption) ?_
  · (intro w' hSw; (try dsimp only at hSw); go_simp; try rfl)
  simp only [Act.put, List.setIfInBounds_toArray, List.set_cons_zero, List.set_cons_succ]
  refine wpAnyH_ready (rs := [12]) (by kernel_rfl) (by simp) ?_
  refine AllReadyH.cons (o := { dst := some 7, op := _, type := _, pos := _, after := _, guard := _ }) rfl (fun K hK => ?_) AllReadyH.nil
  have hal : Below W.drew.heap.size W.drew (W.drew.alloc (.cells #[.int .i64 0, .int .i64 0, .int .i64 0] 102)) := by go_grown
  go_simp
  refine hK.out _ _ ?_ (fun hS1 => ?_)
  · exact ⟨cells_kept hal _ _ hS0.1, cells_kept hal _ _ hS0.2.1, cells_kept hal _ _ hS0.2.2.1, cells_kept hal _ _ hS0.2.2.2.1, cells_kept hal _ _ hS0.2.2.2.2.1, cells_kept hal _ _ hS0.2.2.2.2.2.1, cells_kept hal _ _ hS0.2.2.2.2.2.2⟩
  clear hK
  try simp only [Act.put, List.setIfInBounds_toArray, List.set_cons_zero, List.set_cons_succ]
  refine wpAnyH_ready (rs := [13]) (by kernel_rfl) (by simp) ?_
  refine AllReadyH.cons (o := { dst := none, op := _, type := _, pos := _, after := _, guard := _ }) rfl (fun K hK => ?_) AllReadyH.nil
  have hal2 : Below W.drew.heap.size W.drew (W.drew.alloc (.cells #[.int .i64 x0, .int .i64 x1, .int .i64 x2] 102)) := by go_grown
  go_simp
  refine hK.out _ _ ?_ (fun hS2 => ?_)
  · exact ⟨cells_kept hal2 _ _ hS0.1, cells_kept hal2 _ _ hS0.2.1, cells_kept hal2 _ _ hS0.2.2.1, cells_kept hal2 _ _ hS0.2.2.2.1, cells_kept hal2 _ _ hS0.2.2.2.2.1, cells_kept hal2 _ _ hS0.2.2.2.2.2.1, cells_kept hal2 _ _ hS0.2.2.2.2.2.2⟩
  clear hK
  try simp only [Act.put, List.setIfInBounds_toArray, List.set_cons_zero, List.set_cons_succ]
  refine wpAnyH_done (by kernel_rfl) ?_ _
  have hb : Below W.heap.size W (W.alloc (.cells #[.int .i64 x0, .int .i64 x1, .int .i64 x2] 102)).drew := by go_grown
  have pX : Blk (W.alloc (.cells #[.int .i64 x0, .int .i64 x1, .int .i64 x2] 102)).drew W.heap.size 102 [.int .i64 x0, .int .i64 x1, .int .i64 x2] := blkAt _ _ _ rfl
  replace bw := bel_trans bw hb
  replace pR := pR.below hb
  replace e1 := cells_kept hb _ _ e1
  replace cS := cells_kept hb _ _ cS
  clear hal hal2 hS0 hS1 hS2 f0 q0 q1 q2 hb cP pP pS
  go_wp2_with fail
  generalize (W.alloc (.cells #[.int .i64 x0, .int .i64 x1, .int .i64 x2] 102)).drew = V at *
  generalize W.heap.size = X at *
  have d0 := pX.cell 0
  have d1 := pX.cell 1
  have d2 := pX.cell 2
  simp only [List.getElem?_cons_zero, List.getElem?_cons_succ] at d0 d1 d2
  have hdr : Below V.heap.size V V.drew := by go_grown
  refine wp_region_held_drew (S := (fun w' => w'.cell? ⟨w.heap.size + 1, 0, none⟩ = some (.slice (some ⟨b0, o0, none⟩) 3 c0) ∧ w'.cell? ⟨b0, o0 + k, none⟩ = some (.int .i64 p) ∧ w'.cell? ⟨X, 0, none⟩ = some (.int .i64 x0) ∧ w'.cell? ⟨X, 1, none⟩ = some (.int .i64 x1) ∧ w'.cell? ⟨X, 2, none⟩ = some (.int .i64 x2))) (by kernel_rfl) ⟨cS, e1, d0, d1, d2⟩ (fun hS0 => ?_)
  refine wpAnyH_take (i := 0) (oi := { dst := some 20, op := _, type := _, pos := _, after := _, guard := _ }) (v := .int .i64 (k : Int)) rfl (by kernel_rfl) (by kernel_rfl) (by kernel_rfl) (fun _ _ _ h => h) (Or.inl ⟨by rfl, ?_⟩) (by assumption) ?_
  · (intro w' hSw; (try dsimp only at hSw); go_simp; try rfl)
  simp only [Act.put, List.setIfInBounds_toArray, List.set_cons_zero, List.set_cons_succ]
  refine wpAnyH_take (i := 1) (oi := { dst := some 21, op := _, type := _, pos := _, after := _, guard := _ }) (v := .pointer (some ⟨w.heap.size + 1, 0, none⟩)) rfl (by kernel_rfl) (by kernel_rfl) (by kernel_rfl) (fun _ _ _ h => h) (Or.inl ⟨by rfl, ?_⟩) (by assumption) ?_
  · (intro w' hSw; (try dsimp only at hSw); go_simp; try rfl)
  simp only [Act.put, List.setIfInBounds_toArray, List.set_cons_zero, List.set_cons_succ]
  refine wpAnyH_take (i := 2) (oi := { dst := some 22, op := _, type := _, pos := _, after := _, guard := _ }) (v := .slice (some ⟨b0, o0, none⟩) 3 c0) rfl (by kernel_rfl) (by kernel_rfl) (by kernel_rfl) (fun _ _ _ h => h) (Or.inl ⟨by rfl, ?_⟩) (by assumption) ?_
  · (intro w' hSw; (try dsimp only at hSw); go_simp; try rfl)
  simp only [Act.put, List.setIfInBounds_toArray, List.set_cons_zero, List.set_cons_succ]
  refine wpAnyH_take (i := 3) (oi := { dst := some 23, op := _, type := _, pos := _, after := _, guard := _ }) (v := .int .i64 (k : Int)) rfl (by kernel_rfl) (by kernel_rfl) (by kernel_rfl) (fun _ _ _ h => h) (Or.inl ⟨by rfl, ?_⟩) (by assumption) ?_
  · (intro w' hSw; (try dsimp only at hSw); go_simp; try rfl)
  simp only [Act.put, List.setIfInBounds_toArray, List.set_cons_zero, List.set_cons_succ]
  refine wpAnyH_take (i := 4) (oi := { dst := some 24, op := _, type := _, pos := _, after := _, guard := _ }) (v := .pointer (some ⟨b0, o0 + k, none⟩)) rfl (by kernel_rfl) (by kernel_rfl) (by kernel_rfl) (fun _ _ _ h => h) (Or.inl ⟨by rfl, ?_⟩) (by assumption) ?_
  · (intro w' hSw; (try dsimp only at hSw); go_simp; try rfl)
  simp only [Act.put, List.setIfInBounds_toArray, List.set_cons_zero, List.set_cons_succ]
  refine wpAnyH_take (i := 5) (oi := { dst := some 25, op := _, type := _, pos := _, after := _, guard := _ }) (v := .int .i64 p) rfl (by kernel_rfl) (by kernel_rfl) (by kernel_rfl) (fun _ _ _ h => h) (Or.inl ⟨by rfl, ?_⟩) (by assumption) ?_
  · (intro w' hSw; (try dsimp only at hSw); go_simp; try rfl)
  simp only [Act.put, List.setIfInBounds_toArray, List.set_cons_zero, List.set_cons_succ]
  refine wpAnyH_take (i := 6) (oi := { dst := some 26, op := _, type := _, pos := _, after := _, guard := _ }) (v := .pointer (some ⟨X, 0, none⟩)) rfl (by kernel_rfl) (by kernel_rfl) (by kernel_rfl) (fun _ _ _ h => h) (Or.inl ⟨by rfl, ?_⟩) (by assumption) ?_
  · (intro w' hSw; (try dsimp only at hSw); go_simp; try rfl)
  simp only [Act.put, List.setIfInBounds_toArray, List.set_cons_zero, List.set_cons_succ]
  refine wpAnyH_take (i := 7) (oi := { dst := some 27, op := _, type := _, pos := _, after := _, guard := _ }) (v := .int .i64 x0) rfl (by kernel_rfl) (by kernel_rfl) (by kernel_rfl) (fun _ _ _ h => h) (Or.inl ⟨by rfl, ?_⟩) (by assumption) ?_
  · (intro w' hSw; (try dsimp only at hSw); go_simp; try rfl)
  simp only [Act.put, List.setIfInBounds_toArray, List.set_cons_zero, List.set_cons_succ]
  refine wpAnyH_take (i := 8) (oi := { dst := some 28, op := _, type := _, pos := _, after := _, guard := _ }) (v := .agg #[.int .i64 x0, .int .i64 x1, .int .i64 x2]) rfl (by kernel_rfl) (by kernel_rfl) (by kernel_rfl) (fun _ _ _ h => h) (Or.inl ⟨by rfl, ?_⟩) (by assumption) ?_
  · (intro w' hSw; (try dsimp only at hSw); go_simp; try rfl)
  simp only [Act.put, List.setIfInBounds_toArray, List.set_cons_zero, List.set_cons_succ]
  refine wpAnyH_ready (rs := [9]) (by kernel_rfl) (by simp) ?_
  refine AllReadyH.cons (o := { dst := some 29, op := _, type := _, pos := _, after := _, guard := _ }) rfl (fun K hK => ?_) AllReadyH.nil
  go_simp
  refine (kO _).mono ?_
  rintro e U ⟨rfl, hb8⟩
  go_wp2_with fail
  refine hK.out _ _ ?_ (fun hS1 => ?_)
  · exact ⟨cells_kept hb8 _ _ hS0.1, cells_kept hb8 _ _ hS0.2.1, cells_kept hb8 _ _ hS0.2.2.1, cells_kept hb8 _ _ hS0.2.2.2.1, cells_kept hb8 _ _ hS0.2.2.2.2⟩
  clear hK
  refine wpAnyH_take (i := 10) (oi := { dst := some 30, op := _, type := _, pos := _, after := _, guard := _ }) (v := .agg #[.int .i64 (k : Int), .int .i64 p, .int .i64 x0, .int .i64 ob]) rfl (by kernel_rfl) (by kernel_rfl) (by kernel_rfl) (fun _ _ _ h => h) (Or.inl ⟨by rfl, ?_⟩) (by assumption) ?_
  · (intro w' hSw; (try dsimp only at hSw); go_simp; try rfl)
  simp only [Act.put, List.setIfInBounds_toArray, List.set_cons_zero, List.set_cons_succ]
  replace pR := pR.below (bel_trans hdr hb8)
  replace bw := bel_trans bw (bel_trans hdr hb8)
  refine wpAnyH_ready (rs := [11]) (by kernel_rfl) (by simp) ?_
  refine AllReadyH.cons (o := { dst := none, op := _, type := _, pos := _, after := _, guard := _ }) rfl (fun K hK => ?_) AllReadyH.nil
  refine step_store_blkD rfl 38 _ _ rfl (w.heap.size + 2) [.int .i64 (k : Int), .int .i64 p, .int .i64 x0, .int .i64 ob] rfl rfl pR (by kernel_rfl) rfl rfl ?_
  intro U2 pR2 g2
  have bz := bw.grown g2 bw.size (fun j hj => by cases hj; omega)
  have n0 : (some (w.heap.size + 1) : Option Nat) ≠ some (w.heap.size + 2) := by simp
  have n1 : (some b0 : Option Nat) ≠ some (w.heap.size + 2) := by simp; omega
  have n2 : (some X : Option Nat) ≠ some (w.heap.size + 2) := by simp; omega
  refine hK.out _ _ ⟨cell_grownB g2 hS1.1 n0, cell_grownB g2 hS1.2.1 n1, cell_grownB g2 hS1.2.2.1 n2, cell_grownB g2 hS1.2.2.2.1 n2, cell_grownB g2 hS1.2.2.2.2 n2⟩ (fun hS2 => ?_)
  clear hK
  try simp only [Act.put, List.setIfInBounds_toArray, List.set_cons_zero, List.set_cons_succ]
  refine wpAnyH_done (by kernel_rfl) ?_ _
  clear hS0 hS1 hS2 n0 n1 n2 g2 bw pR hdr hb8 kO d0 d1 d2 e1 pX cS
  go_wp2_with fail
  refine bodyPost_ret (results_blk1 Tryz.results68 _ _ _ _ _ _ rfl pR2.out Tryz.underlying38 rfl (by kernel_rfl)) rfl ?_
  exact ⟨rfl, bz⟩

theorem l05Event_is {w : World} {a9 : Option Addr} {cap : Nat} {cs : Sl × Sl × Sl} {rows : List (List I3)} {s : S4} {m : V4} (hR : RowsAt w a9 cs rows) (h : Vmem w s m) (hp : progOk rows = true) (hs : shapeOk m = true) {k : Nat} (hk : k < 3) (hd : doneM rows m k = false) :
    Calls Tryz.prog 68 #[.agg #[.slice a9 3 cap], s.val, .int .i64 k] w fun e w' => e = .returned (.agg #[.int .i64 (eventM rows m k).1, .int .i64 (eventM rows m k).2.1, .int .i64 (eventM rows m k).2.2.1, .int .i64 (eventM rows m k).2.2.2]) ∧ Below w.heap.size w w' := by
  obtain ⟨p, ep, hlt, hi, hok⟩ := at_ins hp hs hk hd
  obtain ⟨b9, off9, rfl, _, hrow⟩ := hR
  obtain ⟨f0, hI⟩ := hrow k hk
  obtain ⟨b, off, ea, hpn, q0, q1, q2⟩ := ins_at hI hlt
  rw [← hi] at q0 q1 q2
  rw [ea] at f0
  have hm := okI_mid hok
  obtain ⟨⟨j0, _⟩, _⟩ := h
  obtain ⟨l0, _⟩ := shape_parts hs
  obtain ⟨⟨a0, n0, c0⟩, ⟨a1, n1, c1⟩, ⟨a2, n2, c2⟩, ⟨a3, n3, c3⟩⟩ := s
  simp only at j0
  obtain ⟨rfl, b0, o0, rfl⟩ := some_of_ints j0 l0 (by decide)
  have r1 := ints_at9 j0 (t := k) hk
  rw [ep] at r1
  unfold eventM
  rw [ep]
  generalize insM rows m k = x at *
  obtain ⟨x0, x1, x2⟩ := x
  exact l05Event_raw b9 off9 cap b0 o0 c0 a1 n1 c1 a2 n2 c2 a3 n3 c3 k p b off _ _ x0 x1 x2 w hk hpn hm f0 r1 q0 q1 q2
end Go.Proofs.YtmhngodbnoonhaaGreatDoor


/-
  The specification's l05Events.
-/
namespace Go.Proofs.YtmhngodbnoonhaaGreatDoor
open Go.RowKit
set_option linter.unusedVariables false
set_option linter.unusedSimpArgs false

theorem runS_runK (rows : List (List I3)) (ks : List Int) : runS rows zeroV [] ks = ((runI rows zeroV [] ks).1, mergeB (runI rows zeroV [] ks).2.1 (deadM rows (runI rows zeroV [] ks).1), (runI rows zeroV [] ks).2.2) := by
  have h0 : ([] : List I3) = mergeB [] (deadM rows zeroV) := by unfold deadM; rw [stuck_zero]; rfl
  obtain ⟨h1, h2, h3⟩ := run_same (rows := rows) ks zeroV [] [] h0
  rw [← h1, ← h2] at *
  exact Prod.ext h1 (Prod.ext h3 rfl)
theorem OwnV.neE {w w' : World} {b B e s n : Nat} {t : S4} {m : V4} {v : Value} {xs : List Value} (h : OwnV w b t m) (hv : w.ownsRow B e s v n xs) (hg : w.grownBy w' v.ownBlock) (he : 3 ≠ e) : OwnV w' b t m :=
  ⟨⟨World.ownsRow.kept h.1.1 hg (owns_ne h.1.1 hv he), World.ownsRow.kept h.1.2.1 hg (owns_ne h.1.2.1 hv he), World.ownsRow.kept h.1.2.2.1 hg (owns_ne h.1.2.2.1 hv he), World.ownsRow.kept h.1.2.2.2 hg (owns_ne h.1.2.2.2 hv he)⟩, h.2⟩
/-- On the way; the schedule can be run to its end from here. -/
def OnEs (w wr : World) (X : Nat) (a9 : Option Addr) (cap : Nat) (rows : List (List I3)) (ks : List Int) (n i : Nat) (tot : List I4) (m : V4) (fs : List I3) (es : List I4) (v : Value) : Prop :=
  i ≤ n ∧ (runI rows m fs (ks.drop i)).2.2 = 0 ∧ shapeOk m = true ∧ (∃ t : S4, Blk wr X 33 (vmC t) ∧ OwnV wr w.heap.size t m) ∧ wr.ownsRow w.heap.size 38 4 v es.length (flat4 es) ∧ es ++ evsM rows m (ks.drop i) = tot ∧ es.length = i ∧ Below w.heap.size w wr ∧ Blk wr w.heap.size 25 [.slice a9 3 cap] ∧ w.heap.size < X

set_option maxHeartbeats 1600000 in
set_option maxRecDepth 100000 in
theorem l05Events_is {w : World} {a9 : Option Addr} {cap : Nat} {cs : Sl × Sl × Sl} {rows : List (List I3)} {la : Option Addr} {n c : Nat} {ks : List Int} (hR : RowsAt w a9 cs rows) (hp : progOk rows = true) (hL : Ints .i64 w la n c ks) (hn : n ≤ 100000) :
    Calls Tryz.prog 39 #[.agg #[.slice a9 3 cap], .slice la n c] w fun e w' => EvGot e w' w.heap.size (if (runI rows zeroV [] ks).2.2 = 0 then evsM rows zeroV ks else []) (runI rows zeroV [] ks).2.2 ∧ Below w.heap.size w w' := by
  obtain ⟨i0, hi9, hz0, hz1, hz2⟩ := info_parts info_event
  have hll := hL.1
  have kN := specNewVm_is
  have kR := fun (W : World) (b : Below w.heap.size w W) => l04Run_is (cap := cap) (hR.below b) hp (hL.below b) hn
  rw [runS_runK] at kR
  simp only at kR
  have HF0 : Hid ((runI rows zeroV [] (ks.drop 0)).2.2 = (runI rows zeroV [] ks).2.2) := rfl
  have HT0 : Hid ([] ++ evsM rows zeroV (ks.drop 0) = evsM rows zeroV ks) := rfl
  obtain ⟨cd, hcd⟩ : ∃ cd, cd = (runI rows zeroV [] ks).2.2 := ⟨_, rfl⟩
  obtain ⟨tot, htot⟩ : ∃ tot, tot = evsM rows zeroV ks := ⟨_, rfl⟩
  rw [← hcd] at HF0 kR ⊢
  rw [← htot] at HT0 ⊢
  clear hcd htot
  generalize mergeB (runI rows zeroV [] ks).2.1 (deadM rows (runI rows zeroV [] ks).1) = bugs9 at *
  generalize (runI rows zeroV [] ks).1 = zz at *
  obtain ⟨es9, hes⟩ : ∃ es9, es9 = (if cd = 0 then tot else []) := ⟨_, rfl⟩
  rw [← hes]
  have HE : Hid (es9 = (if cd = 0 then tot else [])) := hes
  clear hes
  have bw : Below w.heap.size w (w.alloc (.cells #[.slice a9 3 cap] 25)) := by go_grown
  have pP : Blk (w.alloc (.cells #[.slice a9 3 cap] 25)) w.heap.size 25 [.slice a9 3 cap] := blkAt _ _ _ rfl
  have hUw : w.heap.size + 1 ≤ (w.alloc (.cells #[.slice a9 3 cap] 25)).heap.size := pP.lt
  go_enter Tryz.func39, Tryz.ntmps39
  go_wp2_with fail
  generalize (w.alloc (.cells #[.slice a9 3 cap] 25)) = U at *
  refine (kN _).mono ?_
  rintro e w1 ⟨⟨⟨⟨t0a, t0n, t0c⟩, ⟨t1a, t1n, t1c⟩, ⟨t2a, t2n, t2c⟩, ⟨t3a, t3n, t3c⟩⟩, rfl, hO⟩, hb⟩
  have ut : S4.val ((t0a, t0n, t0c), (t1a, t1n, t1c), (t2a, t2n, t2c), (t3a, t3n, t3c)) = .agg #[.slice t0a t0n t0c, .slice t1a t1n t1c, .slice t2a t2n t2c, .slice t3a t3n t3c] := rfl
  rw [ut]
  replace bw := bel_trans bw hb
  replace pP := pP.below hb
  replace hO := hO.lowerB (B' := w.heap.size) (by omega)
  have hX1 : w.heap.size < w1.heap.size := pP.lt
  clear hb kN ut hUw
  have ha : Below w1.heap.size w1 ((w1.alloc (.cells #[.slice t0a t0n t0c, .slice t1a t1n t1c, .slice t2a t2n t2c, .slice t3a t3n t3c] 33)).alloc (.cells #[] 38)) := by go_grown
  have pS : Blk ((w1.alloc (.cells #[.slice t0a t0n t0c, .slice t1a t1n t1c, .slice t2a t2n t2c, .slice t3a t3n t3c] 33)).alloc (.cells #[] 38)) w1.heap.size 33 [.slice t0a t0n t0c, .slice t1a t1n t1c, .slice t2a t2n t2c, .slice t3a t3n t3c] := blkOld _ (blkAt _ _ _ rfl)
  have q : ((w1.alloc (.cells #[.slice t0a t0n t0c, .slice t1a t1n t1c, .slice t2a t2n t2c, .slice t3a t3n t3c] 33)).alloc (.cells #[] 38)).ownsRow w.heap.size 38 4 (.slice (some ⟨w1.heap.size + 1, 0, none⟩) 0 0) 0 [] := by
    have h9 := own_emptyB (w1.alloc (.cells #[.slice t0a t0n t0c, .slice t1a t1n t1c, .slice t2a t2n t2c, .slice t3a t3n t3c] 33)) 38 4 w.heap.size (by simp; omega)
    simpa using h9
  replace bw := bel_trans bw ha
  replace hO := hO.below ha
  replace pP := pP.below ha
  clear ha
  go_wp2_with (first | refine wpList_load_blk rfl 25 _ rfl w.heap.size rfl pP _ Tryz.underlying25 rfl (by kernel_rfl) ?_)
  generalize (w1.alloc (.cells #[.slice t0a t0n t0c, .slice t1a t1n t1c, .slice t2a t2n t2c, .slice t3a t3n t3c] 33)).alloc (.cells #[] 38) = W2 at *
  generalize w1.heap.size + 1 = g0 at *
  generalize w1.heap.size = X at *
  refine (kR _ bw).mono ?_
  rintro e w3 ⟨⟨⟨⟨r0a, r0n, r0c⟩, ⟨r1a, r1n, r1c⟩, ⟨r2a, r2n, r2c⟩, ⟨r3a, r3n, r3c⟩⟩, vr, rfl, _, _⟩, hb⟩
  have ur : S4.val ((r0a, r0n, r0c), (r1a, r1n, r1c), (r2a, r2n, r2c), (r3a, r3n, r3c)) = .agg #[.slice r0a r0n r0c, .slice r1a r1n r1c, .slice r2a r2n r2c, .slice r3a r3n r3c] := rfl
  rw [ur]
  clear ur kR
  have ha : Below w3.heap.size w3 (w3.alloc (.cells #[.slice r0a r0n r0c, .slice r1a r1n r1c, .slice r2a r2n r2c, .slice r3a r3n r3c] 33)) := by go_grown
  have hb9 := bel_trans hb ha
  replace bw := bel_trans bw hb9
  replace hO := hO.below hb9
  replace pP := pP.below hb9
  replace pS := pS.below hb9
  replace q := owns_below q hb9
  clear hb ha hb9
  by_cases hcz : cd = 0
  · have HE0 : Hid (es9 = tot) := by rw [Hid, HE.out, if_pos hcz]
    have HF1 : Hid ((runI rows zeroV [] (ks.drop 0)).2.2 = 0) := by rw [Hid, HF0.out]; exact hcz
    subst hcz
    clear HE HF0
    go_wp2_with fail
    generalize w3.alloc (.cells #[.slice r0a r0n r0c, .slice r1a r1n r1c, .slice r2a r2n r2c, .slice r3a r3n r3c] 33) = W3 at *
    have st : OnEs w W3 X a9 cap rows ks n 0 tot zeroV [] [] (.slice (some ⟨g0, 0, none⟩) 0 0) := ⟨by omega, HF1.out, zero_shape, ⟨((t0a, t0n, t0c), (t1a, t1n, t1c), (t2a, t2n, t2c), (t3a, t3n, t3c)), pS, hO⟩, q, HT0.out, rfl, bw, pP, hX1⟩
    clear HF1 HT0 pS hO q bw pP
    go_loopw [7, 11] (fun so si wr => ∃ (i : Nat) (m : V4) (fs : List I3) (es : List I4) (vo : Value), vo = so ∧ si = .int .i64 i ∧ OnEs w wr X a9 cap rows ks n i tot m fs es vo) (fun _ si _ => n - (intOf si).toNat)
    case atStart => exact ⟨0, _, _, _, _, rfl, rfl, st⟩
    case round =>
      clear st
      obtain ⟨i, m, fs, es, so, rfl, rfl, hi, hr, hs, ⟨⟨⟨t0a, t0n, t0c⟩, ⟨t1a, t1n, t1c⟩, ⟨t2a, t2n, t2c⟩, ⟨t3a, t3n, t3c⟩⟩, pS, hO⟩, q, ht, hel, bw, pP, hX1⟩ := hrel
      replace pS : Blk wr X 33 [.slice t0a t0n t0c, .slice t1a t1n t1c, .slice t2a t2n t2c, .slice t3a t3n t3c] := pS
      by_cases hlt : i < n
      · obtain ⟨lb, lo, rfl, hc, hlb⟩ := ints_cellE hL hlt
        replace hc := cells_kept bw _ _ hc
        have e9 : ks.drop i = ks.getD i 0 :: ks.drop (i + 1) := by rw [List.drop_eq_getElem_cons (by omega)]; simp [List.getD, show i < ks.length by omega]
        rw [e9] at hr ht
        have hlt' : (i : Int) < (n : Int) := by omega
        have hi0 : (0 : Int) ≤ (i : Int) := by omega
        have fm := (shape_fits9 hs).1
        generalize ks.getD i 0 = kk at *
        clear e9
        have hz : haltM rows m kk = 0 := by
          by_cases h9 : haltM rows m kk = 0
          · exact h9
          · rw [show runI rows m fs (kk :: ks.drop (i + 1)) = (m, fs, haltM rows m kk) by show (if haltM rows m kk = 0 then _ else _) = _; rw [if_neg h9]] at hr
            exact hr
        have hr2 : (runI rows (goM rows m kk).1 (fs ++ ownM rows m kk) (ks.drop (i + 1))).2.2 = 0 := by
          rw [show runI rows m fs (kk :: ks.drop (i + 1)) = runI rows (goM rows m kk).1 (fs ++ ownM rows m kk) (ks.drop (i + 1)) by show (if haltM rows m kk = 0 then _ else _) = _; rw [if_pos hz]] at hr
          exact hr
        obtain ⟨h0, h2, hd, hcn⟩ := halt_can hz
        have hs2 := goM_shape hp hs hz
        obtain ⟨k, rfl⟩ : ∃ k : Nat, kk = k := ⟨kk.toNat, by omega⟩
        rw [Int.toNat_natCast] at hd
        have hk : k < 3 := by omega
        have ht2 : es ++ (eventM rows m k :: evsM rows (goM rows m (k : Int)).1 (ks.drop (i + 1))) = tot := ht
        clear hr ht hz h0 h2 hcn
        have kV := fun (W : World) (b : Below w.heap.size w W) (h : Vmem W ((t0a, t0n, t0c), (t1a, t1n, t1c), (t2a, t2n, t2c), (t3a, t3n, t3c)) m) => l05Event_is (cap := cap) (hR.below b) h hp hs hk hd
        have kT := fun (W : World) (b : Below w.heap.size w W) (h : Vmem W ((t0a, t0n, t0c), (t1a, t1n, t1c), (t2a, t2n, t2c), (t3a, t3n, t3c)) m) => l03Step_is (cap := cap) rfl (hR.below b) h hp hs hk hd
        rw [← goM_nat] at kT
        have ut : S4.val ((t0a, t0n, t0c), (t1a, t1n, t1c), (t2a, t2n, t2c), (t3a, t3n, t3c)) = .agg #[.slice t0a t0n t0c, .slice t1a t1n t1c, .slice t2a t2n t2c, .slice t3a t3n t3c] := rfl
        rw [ut] at kV kT
        clear ut hd
        obtain ⟨ev, hev⟩ : ∃ ev, ev = eventM rows m k := ⟨_, rfl⟩
        rw [← hev] at kV ht2
        obtain ⟨v0, v1, v2, v3⟩ := ev
        simp only at kV
        clear hev
        have HT2 : Hid (es ++ ((v0, v1, v2, v3) :: evsM rows (goM rows m (k : Int)).1 (ks.drop (i + 1))) = tot) := ht2
        have HR2 : Hid ((runI rows (goM rows m (k : Int)).1 (fs ++ ownM rows m (k : Int)) (ks.drop (i + 1))).2.2 = 0) := hr2
        clear ht2 hr2
        generalize fs ++ ownM rows m (k : Int) = fs2 at *
        generalize (goM rows m (k : Int)).1 = z at *
        generalize (goM rows m (k : Int)).2 = fd at *
        go_wp2_with fail
        refine wp_region_held_drew (S := (fun w' => w'.cell? ⟨w.heap.size, 0, none⟩ = some (.slice a9 3 cap) ∧ w'.cell? ⟨X, 0, none⟩ = some (.slice t0a t0n t0c) ∧ w'.cell? ⟨X, 1, none⟩ = some (.slice t1a t1n t1c) ∧ w'.cell? ⟨X, 2, none⟩ = some (.slice t2a t2n t2c) ∧ w'.cell? ⟨X, 3, none⟩ = some (.slice t3a t3n t3c) ∧ w'.cell? ⟨lb, lo + i, none⟩ = some (.int .i64 (k : Int)))) (by kernel_rfl) ⟨by simpa using pP.cell 0, by simpa using pS.cell 0, by simpa using pS.cell 1, by simpa using pS.cell 2, by simpa using pS.cell 3, hc⟩ (fun hS0 => ?_)
        refine wpAnyH_take (i := 0) (oi := { dst := some 33, op := _, type := _, pos := _, after := _, guard := _ }) (v := so) rfl (by kernel_rfl) (by kernel_rfl) (by kernel_rfl) (fun _ _ _ h => h) (Or.inl ⟨by rfl, ?_⟩) (by assumption) ?_
        · (intro w' hSw; (try dsimp only at hSw); go_simp; try rfl)
        simp only [Act.put, List.setIfInBounds_toArray, List.set_cons_zero, List.set_cons_succ]
        refine wpAnyH_take (i := 1) (oi := { dst := some 34, op := _, type := _, pos := _, after := _, guard := _ }) (v := .agg #[.slice a9 3 cap]) rfl (by kernel_rfl) (by kernel_rfl) (by kernel_rfl) (fun _ _ _ h => h) (Or.inl ⟨by rfl, ?_⟩) (by assumption) ?_
        · (intro w' hSw; (try dsimp only at hSw); go_simp; try rfl)
        simp only [Act.put, List.setIfInBounds_toArray, List.set_cons_zero, List.set_cons_succ]
        refine wpAnyH_take (i := 2) (oi := { dst := some 35, op := _, type := _, pos := _, after := _, guard := _ }) (v := .agg #[.slice t0a t0n t0c, .slice t1a t1n t1c, .slice t2a t2n t2c, .slice t3a t3n t3c]) rfl (by kernel_rfl) (by kernel_rfl) (by kernel_rfl) (fun _ _ _ h => h) (Or.inl ⟨by rfl, ?_⟩) (by assumption) ?_
        · (intro w' hSw; (try dsimp only at hSw); go_simp; try rfl)
        simp only [Act.put, List.setIfInBounds_toArray, List.set_cons_zero, List.set_cons_succ]
        refine wpAnyH_take (i := 3) (oi := { dst := some 36, op := _, type := _, pos := _, after := _, guard := _ }) (v := .slice (some ⟨lb, lo, none⟩) n c) rfl (by kernel_rfl) (by kernel_rfl) (by kernel_rfl) (fun _ _ _ h => h) (Or.inl ⟨by rfl, ?_⟩) (by assumption) ?_
        · (intro w' hSw; (try dsimp only at hSw); go_simp; try rfl)
        simp only [Act.put, List.setIfInBounds_toArray, List.set_cons_zero, List.set_cons_succ]
        refine wpAnyH_take (i := 4) (oi := { dst := some 37, op := _, type := _, pos := _, after := _, guard := _ }) (v := .int .i64 (i : Int)) rfl (by kernel_rfl) (by kernel_rfl) (by kernel_rfl) (fun _ _ _ h => h) (Or.inl ⟨by rfl, ?_⟩) (by assumption) ?_
        · (intro w' hSw; (try dsimp only at hSw); go_simp; try rfl)
        simp only [Act.put, List.setIfInBounds_toArray, List.set_cons_zero, List.set_cons_succ]
        refine wpAnyH_take (i := 5) (oi := { dst := some 38, op := _, type := _, pos := _, after := _, guard := _ }) (v := .pointer (some ⟨lb, lo + i, none⟩)) rfl (by kernel_rfl) (by kernel_rfl) (by kernel_rfl) (fun _ _ _ h => h) (Or.inl ⟨by rfl, ?_⟩) (by assumption) ?_
        · (intro w' hSw; (try dsimp only at hSw); go_simp; try rfl)
        simp only [Act.put, List.setIfInBounds_toArray, List.set_cons_zero, List.set_cons_succ]
        refine wpAnyH_take (i := 6) (oi := { dst := some 39, op := _, type := _, pos := _, after := _, guard := _ }) (v := .int .i64 (k : Int)) rfl (by kernel_rfl) (by kernel_rfl) (by kernel_rfl) (fun _ _ _ h => h) (Or.inl ⟨by rfl, ?_⟩) (by assumption) ?_
        · (intro w' hSw; (try dsimp only at hSw); go_simp; try rfl)
        simp only [Act.put, List.setIfInBounds_toArray, List.set_cons_zero, List.set_cons_succ]
        have hb9 : Below wr.heap.size wr wr.drew := by go_grown
        replace bw := bel_trans bw hb9
        replace pP := pP.below hb9
        replace pS := pS.below hb9
        replace hO := hO.below hb9
        replace q := owns_below q hb9
        replace hc := cells_kept hb9 _ _ hc
        clear hb9
        have kVx := kV _ bw (hO.mem fm)
        clear kV
        generalize wr.drew = V at *
        refine wpAnyH_ready (rs := [7]) (by kernel_rfl) (by simp) ?_
        refine AllReadyH.cons (o := { dst := some 40, op := _, type := _, pos := _, after := _, guard := _ }) rfl (fun K hK => ?_) AllReadyH.nil
        go_simp
        refine kVx.mono ?_
        rintro e V1 ⟨rfl, hb⟩
        replace bw := bel_trans bw hb
        replace pP := pP.below hb
        replace pS := pS.below hb
        replace hO := hO.below hb
        replace q := owns_below q hb
        replace hc := cells_kept hb _ _ hc
        clear hb kVx
        go_wp2_with fail
        refine hK.out _ _ ⟨by simpa using pP.cell 0, by simpa using pS.cell 0, by simpa using pS.cell 1, by simpa using pS.cell 2, by simpa using pS.cell 3, hc⟩ (fun hS1 => ?_)
        clear hK
        try simp only [Act.put, List.setIfInBounds_toArray, List.set_cons_zero, List.set_cons_succ]
        refine wpAnyH_ready (rs := [8]) (by kernel_rfl) (by simp) ?_
        refine AllReadyH.cons (o := { dst := some 41, op := _, type := _, pos := _, after := _, guard := _ }) rfl (fun K hK => ?_) AllReadyH.nil
        have hb : Below V1.heap.size V1 (V1.alloc (.cells #[.int .i64 v0, .int .i64 v1, .int .i64 v2, .int .i64 v3] 38)) := by go_grown
        have pV : Blk (V1.alloc (.cells #[.int .i64 v0, .int .i64 v1, .int .i64 v2, .int .i64 v3] 38)) V1.heap.size 38 [.int .i64 v0, .int .i64 v1, .int .i64 v2, .int .i64 v3] := blkAt _ _ _ rfl
        replace bw := bel_trans bw hb
        replace pP := pP.below hb
        replace pS := pS.below hb
        replace hO := hO.below hb
        replace q := owns_below q hb
        replace hc := cells_kept hb _ _ hc
        go_simp
        refine hK.out _ _ ⟨by simpa using pP.cell 0, by simpa using pS.cell 0, by simpa using pS.cell 1, by simpa using pS.cell 2, by simpa using pS.cell 3, hc⟩ (fun hS2 => ?_)
        clear hK hb
        generalize (V1.alloc (.cells #[.int .i64 v0, .int .i64 v1, .int .i64 v2, .int .i64 v3] 38)) = V2 at *
        generalize V1.heap.size = G9 at *
        try simp only [Act.put, List.setIfInBounds_toArray, List.set_cons_zero, List.set_cons_succ]
        refine wpAnyH_ready (rs := [9]) (by kernel_rfl) (by simp) ?_
        refine AllReadyH.cons (o := { dst := some 42, op := _, type := _, pos := _, after := _, guard := _ }) rfl (fun K hK => ?_) AllReadyH.nil
        refine step_append_mine rfl _ _ 29 rfl w.heap.size 38 i0 (.agg #[.int .i64 0, .int .i64 0, .int .i64 0, .int .i64 0]) 4 32 Tryz.underlying29 hi9 hz0 hz1 hz2 rfl (by decide) so es.length (flat4 es) rfl q ⟨G9, 0, none⟩ 1 1 [.int .i64 v0, .int .i64 v1, .int .i64 v2, .int .i64 v3] rfl rfl (four_at pV) (four_one _ _ _ _) (by unfold maxLen; omega) (by omega) bw.size ?_
        intro v9 V3 q9 gr
        have hqb : ∀ j, so.ownBlock = some j → w.heap.size ≤ j := fun j hj => (q.lt j hj).1
        replace pP := pP.kept gr (own_ne_blk q pP (by decide))
        replace pS := pS.kept gr (own_ne_blk q pS (by decide))
        replace hO := OwnV.neE hO q gr (by decide)
        replace hc := cell_grownB gr hc (fun e9 => by have := hqb _ e9.symm; simp only at this; omega)
        replace bw := bw.grown gr bw.size hqb
        refine hK.out _ _ ⟨by simpa using pP.cell 0, by simpa using pS.cell 0, by simpa using pS.cell 1, by simpa using pS.cell 2, by simpa using pS.cell 3, hc⟩ (fun hS3 => ?_)
        clear hK
        try simp only [Act.put, List.setIfInBounds_toArray, List.set_cons_zero, List.set_cons_succ]
        refine wpAnyH_take (i := 10) (oi := { dst := some 7, op := _, type := _, pos := _, after := _, guard := _ }) (v := v9) rfl (by kernel_rfl) (by kernel_rfl) (by kernel_rfl) (fun _ _ _ h => h) (Or.inl ⟨by rfl, ?_⟩) (by assumption) ?_
        · (intro w' hSw; (try dsimp only at hSw); go_simp; try rfl)
        simp only [Act.put, List.setIfInBounds_toArray, List.set_cons_zero, List.set_cons_succ]
        refine wpAnyH_done (by kernel_rfl) ?_ _
        have R : V3.ownsRow w.heap.size 38 4 v9 (es ++ [(v0, v1, v2, v3)]).length (flat4 (es ++ [(v0, v1, v2, v3)])) := by
          rw [List.length_append, flat4_snoc]
          exact q9
        clear q q9 gr pV hS0 hS1 hS2 hS3 hqb
        have q := R
        clear R
        have hln2 : (es ++ [(v0, v1, v2, v3)]).length = i + 1 := by rw [List.length_append, hel]; rfl
        have HT3 : Hid ((es ++ [(v0, v1, v2, v3)]) ++ evsM rows z (ks.drop (i + 1)) = tot) := by rw [Hid, List.append_assoc]; exact HT2.out
        have HL2 : Hid ((es ++ [(v0, v1, v2, v3)]).length = i + 1) := hln2
        clear HT2 hln2
        generalize es ++ [(v0, v1, v2, v3)] = es2 at *
        go_wp2_with fail
        refine wp_region_held_drew (S := (fun w' => w'.cell? ⟨w.heap.size, 0, none⟩ = some (.slice a9 3 cap) ∧ w'.cell? ⟨X, 0, none⟩ = some (.slice t0a t0n t0c) ∧ w'.cell? ⟨X, 1, none⟩ = some (.slice t1a t1n t1c) ∧ w'.cell? ⟨X, 2, none⟩ = some (.slice t2a t2n t2c) ∧ w'.cell? ⟨X, 3, none⟩ = some (.slice t3a t3n t3c) ∧ w'.cell? ⟨lb, lo + i, none⟩ = some (.int .i64 (k : Int)))) (by kernel_rfl) ⟨by simpa using pP.cell 0, by simpa using pS.cell 0, by simpa using pS.cell 1, by simpa using pS.cell 2, by simpa using pS.cell 3, hc⟩ (fun hS0 => ?_)
        refine wpAnyH_take (i := 0) (oi := { dst := some 44, op := _, type := _, pos := _, after := _, guard := _ }) (v := .agg #[.slice a9 3 cap]) rfl (by kernel_rfl) (by kernel_rfl) (by kernel_rfl) (fun _ _ _ h => h) (Or.inl ⟨by rfl, ?_⟩) (by assumption) ?_
        · (intro w' hSw; (try dsimp only at hSw); go_simp; try rfl)
        simp only [Act.put, List.setIfInBounds_toArray, List.set_cons_zero, List.set_cons_succ]
        refine wpAnyH_take (i := 1) (oi := { dst := some 45, op := _, type := _, pos := _, after := _, guard := _ }) (v := .agg #[.slice t0a t0n t0c, .slice t1a t1n t1c, .slice t2a t2n t2c, .slice t3a t3n t3c]) rfl (by kernel_rfl) (by kernel_rfl) (by kernel_rfl) (fun _ _ _ h => h) (Or.inl ⟨by rfl, ?_⟩) (by assumption) ?_
        · (intro w' hSw; (try dsimp only at hSw); go_simp; try rfl)
        simp only [Act.put, List.setIfInBounds_toArray, List.set_cons_zero, List.set_cons_succ]
        refine wpAnyH_take (i := 2) (oi := { dst := some 46, op := _, type := _, pos := _, after := _, guard := _ }) (v := .slice (some ⟨lb, lo, none⟩) n c) rfl (by kernel_rfl) (by kernel_rfl) (by kernel_rfl) (fun _ _ _ h => h) (Or.inl ⟨by rfl, ?_⟩) (by assumption) ?_
        · (intro w' hSw; (try dsimp only at hSw); go_simp; try rfl)
        simp only [Act.put, List.setIfInBounds_toArray, List.set_cons_zero, List.set_cons_succ]
        refine wpAnyH_take (i := 3) (oi := { dst := some 47, op := _, type := _, pos := _, after := _, guard := _ }) (v := .int .i64 (i : Int)) rfl (by kernel_rfl) (by kernel_rfl) (by kernel_rfl) (fun _ _ _ h => h) (Or.inl ⟨by rfl, ?_⟩) (by assumption) ?_
        · (intro w' hSw; (try dsimp only at hSw); go_simp; try rfl)
        simp only [Act.put, List.setIfInBounds_toArray, List.set_cons_zero, List.set_cons_succ]
        refine wpAnyH_take (i := 4) (oi := { dst := some 48, op := _, type := _, pos := _, after := _, guard := _ }) (v := .pointer (some ⟨lb, lo + i, none⟩)) rfl (by kernel_rfl) (by kernel_rfl) (by kernel_rfl) (fun _ _ _ h => h) (Or.inl ⟨by rfl, ?_⟩) (by assumption) ?_
        · (intro w' hSw; (try dsimp only at hSw); go_simp; try rfl)
        simp only [Act.put, List.setIfInBounds_toArray, List.set_cons_zero, List.set_cons_succ]
        refine wpAnyH_take (i := 5) (oi := { dst := some 49, op := _, type := _, pos := _, after := _, guard := _ }) (v := .int .i64 (k : Int)) rfl (by kernel_rfl) (by kernel_rfl) (by kernel_rfl) (fun _ _ _ h => h) (Or.inl ⟨by rfl, ?_⟩) (by assumption) ?_
        · (intro w' hSw; (try dsimp only at hSw); go_simp; try rfl)
        simp only [Act.put, List.setIfInBounds_toArray, List.set_cons_zero, List.set_cons_succ]
        have hb9 : Below V3.heap.size V3 V3.drew := by go_grown
        replace bw := bel_trans bw hb9
        replace pP := pP.below hb9
        replace pS := pS.below hb9
        replace hO := hO.below hb9
        replace q := owns_below q hb9
        replace hc := cells_kept hb9 _ _ hc
        clear hb9
        generalize V3.drew = Y0 at *
        refine wpAnyH_ready (rs := [6, 10]) (by kernel_rfl) (by simp) ?_
        refine AllReadyH.cons (o := { dst := some 50, op := _, type := _, pos := _, after := _, guard := _ }) rfl (fun K hK => ?_) (AllReadyH.cons (o := { dst := some 12, op := _, type := _, pos := _, after := _, guard := _ }) rfl (fun K hK => ?_) AllReadyH.nil)
        · have kFx := kT _ bw (hO.mem fm)
          go_simp
          refine kFx.mono ?_
          rintro e Y1 ⟨⟨⟨⟨z0a, z0n, z0c⟩, ⟨z1a, z1n, z1c⟩, ⟨z2a, z2n, z2c⟩, ⟨z3a, z3n, z3c⟩⟩, rfl, hO2⟩, hb⟩
          have uz : S4.val ((z0a, z0n, z0c), (z1a, z1n, z1c), (z2a, z2n, z2c), (z3a, z3n, z3c)) = .agg #[.slice z0a z0n z0c, .slice z1a z1n z1c, .slice z2a z2n z2c, .slice z3a z3n z3c] := rfl
          rw [uz]
          replace hO2 := hO2.lowerB (B' := w.heap.size) bw.size
          replace bw := bel_trans bw hb
          replace pP := pP.below hb
          replace pS := pS.below hb
          replace hO := hO.below hb
          replace q := owns_below q hb
          replace hc := cells_kept hb _ _ hc
          clear hb kFx uz kT
          go_wp2_with fail
          refine hK.out _ _ ⟨by simpa using pP.cell 0, by simpa using pS.cell 0, by simpa using pS.cell 1, by simpa using pS.cell 2, by simpa using pS.cell 3, hc⟩ (fun hS5 => ?_)
          clear hK
          try simp only [Act.put, List.setIfInBounds_toArray, List.set_cons_zero, List.set_cons_succ]
          refine wpAnyH_take (i := 7) (oi := { dst := some 43, op := _, type := _, pos := _, after := _, guard := _ }) (v := .tuple #[.agg #[.slice z0a z0n z0c, .slice z1a z1n z1c, .slice z2a z2n z2c, .slice z3a z3n z3c], .int .i64 fd]) rfl (by kernel_rfl) (by kernel_rfl) (by kernel_rfl) (fun _ _ _ h => h) (Or.inl ⟨by rfl, ?_⟩) (by assumption) ?_
          · (intro w' hSw; (try dsimp only at hSw); go_simp; try rfl)
          simp only [Act.put, List.setIfInBounds_toArray, List.set_cons_zero, List.set_cons_succ]
          refine wpAnyH_take (i := 8) (oi := { dst := some 51, op := _, type := _, pos := _, after := _, guard := _ }) (v := .agg #[.slice z0a z0n z0c, .slice z1a z1n z1c, .slice z2a z2n z2c, .slice z3a z3n z3c]) rfl (by kernel_rfl) (by kernel_rfl) (by kernel_rfl) (fun _ _ _ h => h) (Or.inl ⟨by rfl, ?_⟩) (by assumption) ?_
          · (intro w' hSw; (try dsimp only at hSw); go_simp; try rfl)
          simp only [Act.put, List.setIfInBounds_toArray, List.set_cons_zero, List.set_cons_succ]
          refine wpAnyH_take (i := 9) (oi := { dst := some 52, op := _, type := _, pos := _, after := _, guard := _ }) (v := .int .i64 fd) rfl (by kernel_rfl) (by kernel_rfl) (by kernel_rfl) (fun _ _ _ h => h) (Or.inl ⟨by rfl, ?_⟩) (by assumption) ?_
          · (intro w' hSw; (try dsimp only at hSw); go_simp; try rfl)
          simp only [Act.put, List.setIfInBounds_toArray, List.set_cons_zero, List.set_cons_succ]
          refine wpAnyH_ready (rs := [10]) (by kernel_rfl) (by simp) ?_
          refine AllReadyH.cons (o := { dst := some 12, op := _, type := _, pos := _, after := _, guard := _ }) rfl (fun K hK => ?_) AllReadyH.nil
          have hb : Below Y1.heap.size Y1 (Y1.alloc (.cells #[.slice none 0 0, .slice none 0 0, .slice none 0 0, .slice none 0 0] 33)) := by go_grown
          have pX : Blk (Y1.alloc (.cells #[.slice none 0 0, .slice none 0 0, .slice none 0 0, .slice none 0 0] 33)) Y1.heap.size 33 [.slice none 0 0, .slice none 0 0, .slice none 0 0, .slice none 0 0] := blkAt _ _ _ rfl
          have hX9 : w.heap.size < Y1.heap.size ∧ X < Y1.heap.size := ⟨pP.lt, pS.lt⟩
          replace bw := bel_trans bw hb
          replace pP := pP.below hb
          replace pS := pS.below hb
          replace hO := hO.below hb
          replace q := owns_below q hb
          replace hc := cells_kept hb _ _ hc
          replace hO2 := hO2.below hb
          go_simp
          refine hK.out _ _ ⟨by simpa using pP.cell 0, by simpa using pS.cell 0, by simpa using pS.cell 1, by simpa using pS.cell 2, by simpa using pS.cell 3, hc⟩ (fun hS6 => ?_)
          clear hK hb
          generalize (Y1.alloc (.cells #[.slice none 0 0, .slice none 0 0, .slice none 0 0, .slice none 0 0] 33)) = Y2 at *
          generalize Y1.heap.size = Y at *
          try simp only [Act.put, List.setIfInBounds_toArray, List.set_cons_zero, List.set_cons_succ]
          refine wpAnyH_ready (rs := [11]) (by kernel_rfl) (by simp) ?_
          refine AllReadyH.cons (o := { dst := none, op := _, type := _, pos := _, after := _, guard := _ }) rfl (fun K hK => ?_) AllReadyH.nil
          refine step_store_blkD rfl 33 _ _ rfl Y [.slice z0a z0n z0c, .slice z1a z1n z1c, .slice z2a z2n z2c, .slice z3a z3n z3c] rfl rfl pX (by kernel_rfl) rfl rfl ?_
          intro V8 pX8 g8
          have m0 : (some Y : Option Nat) ≠ some w.heap.size := by simp; omega
          have m2 : (some Y : Option Nat) ≠ some X := by simp; omega
          replace hO2 := hO2.kept9 g8 pX (by decide)
          replace q := q.kept g8 (own_apart_blk q pX (by decide))
          replace pP := pP.kept g8 m0
          replace pS := pS.kept g8 m2
          replace bw := bw.grown g8 bw.size (fun j hj => by cases hj; omega)
          replace hc := cell_grownB g8 hc (by simp; omega)
          refine hK.out _ _ ⟨by simpa using pP.cell 0, by simpa using pS.cell 0, by simpa using pS.cell 1, by simpa using pS.cell 2, by simpa using pS.cell 3, hc⟩ (fun hS7 => ?_)
          clear hK m0 m2 pX g8 hO
          have pX := pX8.out
          clear pX8
          try simp only [Act.put, List.setIfInBounds_toArray, List.set_cons_zero, List.set_cons_succ]
          refine wpAnyH_take (i := 12) (oi := { dst := some 13, op := _, type := _, pos := _, after := _, guard := _ }) (v := .int .i64 fd) rfl (by kernel_rfl) (by kernel_rfl) (by kernel_rfl) (fun _ _ _ h => h) (Or.inl ⟨by rfl, ?_⟩) (by assumption) ?_
          · (intro w' hSw; (try dsimp only at hSw); go_simp; try rfl)
          simp only [Act.put, List.setIfInBounds_toArray, List.set_cons_zero, List.set_cons_succ]
          refine wpAnyH_done (by kernel_rfl) ?_ _
          clear hS0 hS5 hS6 hS7 hc
          go_wp2_with (first | refine wpList_load_blk rfl 33 _ rfl Y rfl pX _ Tryz.underlying33 rfl (by kernel_rfl) ?_ | refine wpList_store_blk rfl 33 _ _ rfl X [.slice z0a z0n z0c, .slice z1a z1n z1c, .slice z2a z2n z2c, .slice z3a z3n z3c] rfl rfl pS (by kernel_rfl) rfl rfl ?_)
          intro V9 pS9 g9
          have m0 : (some X : Option Nat) ≠ some w.heap.size := by simp; omega
          replace hO2 := hO2.kept9 g9 pS (by decide)
          replace q := q.kept g9 (own_apart_blk q pS (by decide))
          replace pP := pP.kept g9 m0
          replace bw := bw.grown g9 bw.size (fun j hj => by cases hj; omega)
          have st6 : OnEs w V9 X a9 cap rows ks n (i + 1) tot z fs2 es2 v9 := ⟨by omega, HR2.out, hs2, ⟨((z0a, z0n, z0c), (z1a, z1n, z1c), (z2a, z2n, z2c), (z3a, z3n, z3c)), pS9.out, hO2⟩, q, HT3.out, HL2.out, bw, pP, hX1⟩
          clear q pS pS9 g9 m0 pX hO2 bw pP hs2 hs fm HR2 HT3 HL2 hX9
          go_wp2
          go_roundw
          case rel => exact ⟨i + 1, _, _, _, _, rfl, by go_num, st6⟩
          case measure => simp [intOf]; omega
        · have hb : Below Y0.heap.size Y0 (Y0.alloc (.cells #[.slice none 0 0, .slice none 0 0, .slice none 0 0, .slice none 0 0] 33)) := by go_grown
          have pX : Blk (Y0.alloc (.cells #[.slice none 0 0, .slice none 0 0, .slice none 0 0, .slice none 0 0] 33)) Y0.heap.size 33 [.slice none 0 0, .slice none 0 0, .slice none 0 0, .slice none 0 0] := blkAt _ _ _ rfl
          have hX9 : w.heap.size < Y0.heap.size ∧ X < Y0.heap.size := ⟨pP.lt, pS.lt⟩
          replace bw := bel_trans bw hb
          replace pP := pP.below hb
          replace pS := pS.below hb
          replace hO := hO.below hb
          replace q := owns_below q hb
          replace hc := cells_kept hb _ _ hc
          go_simp
          refine hK.out _ _ ⟨by simpa using pP.cell 0, by simpa using pS.cell 0, by simpa using pS.cell 1, by simpa using pS.cell 2, by simpa using pS.cell 3, hc⟩ (fun hS6 => ?_)
          clear hK hb
          generalize (Y0.alloc (.cells #[.slice none 0 0, .slice none 0 0, .slice none 0 0, .slice none 0 0] 33)) = Y2 at *
          generalize Y0.heap.size = Y at *
          try simp only [Act.put, List.setIfInBounds_toArray, List.set_cons_zero, List.set_cons_succ]
          refine wpAnyH_ready (rs := [6]) (by kernel_rfl) (by simp) ?_
          refine AllReadyH.cons (o := { dst := some 50, op := _, type := _, pos := _, after := _, guard := _ }) rfl (fun K hK => ?_) AllReadyH.nil
          have kFx := kT _ bw (hO.mem fm)
          go_simp
          refine kFx.mono ?_
          rintro e Y3 ⟨⟨⟨⟨z0a, z0n, z0c⟩, ⟨z1a, z1n, z1c⟩, ⟨z2a, z2n, z2c⟩, ⟨z3a, z3n, z3c⟩⟩, rfl, hO2⟩, hb⟩
          have uz : S4.val ((z0a, z0n, z0c), (z1a, z1n, z1c), (z2a, z2n, z2c), (z3a, z3n, z3c)) = .agg #[.slice z0a z0n z0c, .slice z1a z1n z1c, .slice z2a z2n z2c, .slice z3a z3n z3c] := rfl
          rw [uz]
          replace hO2 := hO2.lowerB (B' := w.heap.size) bw.size
          replace bw := bel_trans bw hb
          replace pP := pP.below hb
          replace pS := pS.below hb
          replace hO := hO.below hb
          replace q := owns_below q hb
          replace hc := cells_kept hb _ _ hc
          replace pX := pX.below hb
          clear hb kFx uz kT
          go_wp2_with fail
          refine hK.out _ _ ⟨by simpa using pP.cell 0, by simpa using pS.cell 0, by simpa using pS.cell 1, by simpa using pS.cell 2, by simpa using pS.cell 3, hc⟩ (fun hS5 => ?_)
          clear hK
          try simp only [Act.put, List.setIfInBounds_toArray, List.set_cons_zero, List.set_cons_succ]
          refine wpAnyH_take (i := 7) (oi := { dst := some 43, op := _, type := _, pos := _, after := _, guard := _ }) (v := .tuple #[.agg #[.slice z0a z0n z0c, .slice z1a z1n z1c, .slice z2a z2n z2c, .slice z3a z3n z3c], .int .i64 fd]) rfl (by kernel_rfl) (by kernel_rfl) (by kernel_rfl) (fun _ _ _ h => h) (Or.inl ⟨by rfl, ?_⟩) (by assumption) ?_
          · (intro w' hSw; (try dsimp only at hSw); go_simp; try rfl)
          simp only [Act.put, List.setIfInBounds_toArray, List.set_cons_zero, List.set_cons_succ]
          refine wpAnyH_take (i := 8) (oi := { dst := some 51, op := _, type := _, pos := _, after := _, guard := _ }) (v := .agg #[.slice z0a z0n z0c, .slice z1a z1n z1c, .slice z2a z2n z2c, .slice z3a z3n z3c]) rfl (by kernel_rfl) (by kernel_rfl) (by kernel_rfl) (fun _ _ _ h => h) (Or.inl ⟨by rfl, ?_⟩) (by assumption) ?_
          · (intro w' hSw; (try dsimp only at hSw); go_simp; try rfl)
          simp only [Act.put, List.setIfInBounds_toArray, List.set_cons_zero, List.set_cons_succ]
          refine wpAnyH_take (i := 9) (oi := { dst := some 52, op := _, type := _, pos := _, after := _, guard := _ }) (v := .int .i64 fd) rfl (by kernel_rfl) (by kernel_rfl) (by kernel_rfl) (fun _ _ _ h => h) (Or.inl ⟨by rfl, ?_⟩) (by assumption) ?_
          · (intro w' hSw; (try dsimp only at hSw); go_simp; try rfl)
          simp only [Act.put, List.setIfInBounds_toArray, List.set_cons_zero, List.set_cons_succ]
          refine wpAnyH_ready (rs := [11]) (by kernel_rfl) (by simp) ?_
          refine AllReadyH.cons (o := { dst := none, op := _, type := _, pos := _, after := _, guard := _ }) rfl (fun K hK => ?_) AllReadyH.nil
          refine step_store_blkD rfl 33 _ _ rfl Y [.slice z0a z0n z0c, .slice z1a z1n z1c, .slice z2a z2n z2c, .slice z3a z3n z3c] rfl rfl pX (by kernel_rfl) rfl rfl ?_
          intro V8 pX8 g8
          have m0 : (some Y : Option Nat) ≠ some w.heap.size := by simp; omega
          have m2 : (some Y : Option Nat) ≠ some X := by simp; omega
          replace hO2 := hO2.kept9 g8 pX (by decide)
          replace q := q.kept g8 (own_apart_blk q pX (by decide))
          replace pP := pP.kept g8 m0
          replace pS := pS.kept g8 m2
          replace bw := bw.grown g8 bw.size (fun j hj => by cases hj; omega)
          replace hc := cell_grownB g8 hc (by simp; omega)
          refine hK.out _ _ ⟨by simpa using pP.cell 0, by simpa using pS.cell 0, by simpa using pS.cell 1, by simpa using pS.cell 2, by simpa using pS.cell 3, hc⟩ (fun hS7 => ?_)
          clear hK m0 m2 pX g8 hO
          have pX := pX8.out
          clear pX8
          try simp only [Act.put, List.setIfInBounds_toArray, List.set_cons_zero, List.set_cons_succ]
          refine wpAnyH_take (i := 12) (oi := { dst := some 13, op := _, type := _, pos := _, after := _, guard := _ }) (v := .int .i64 fd) rfl (by kernel_rfl) (by kernel_rfl) (by kernel_rfl) (fun _ _ _ h => h) (Or.inl ⟨by rfl, ?_⟩) (by assumption) ?_
          · (intro w' hSw; (try dsimp only at hSw); go_simp; try rfl)
          simp only [Act.put, List.setIfInBounds_toArray, List.set_cons_zero, List.set_cons_succ]
          refine wpAnyH_done (by kernel_rfl) ?_ _
          clear hS0 hS5 hS6 hS7 hc
          go_wp2_with (first | refine wpList_load_blk rfl 33 _ rfl Y rfl pX _ Tryz.underlying33 rfl (by kernel_rfl) ?_ | refine wpList_store_blk rfl 33 _ _ rfl X [.slice z0a z0n z0c, .slice z1a z1n z1c, .slice z2a z2n z2c, .slice z3a z3n z3c] rfl rfl pS (by kernel_rfl) rfl rfl ?_)
          intro V9 pS9 g9
          have m0 : (some X : Option Nat) ≠ some w.heap.size := by simp; omega
          replace hO2 := hO2.kept9 g9 pS (by decide)
          replace q := q.kept g9 (own_apart_blk q pS (by decide))
          replace pP := pP.kept g9 m0
          replace bw := bw.grown g9 bw.size (fun j hj => by cases hj; omega)
          have st6 : OnEs w V9 X a9 cap rows ks n (i + 1) tot z fs2 es2 v9 := ⟨by omega, HR2.out, hs2, ⟨((z0a, z0n, z0c), (z1a, z1n, z1c), (z2a, z2n, z2c), (z3a, z3n, z3c)), pS9.out, hO2⟩, q, HT3.out, HL2.out, bw, pP, hX1⟩
          clear q pS pS9 g9 m0 pX hO2 bw pP hs2 hs fm HR2 HT3 HL2 hX9
          go_wp2
          go_roundw
          case rel => exact ⟨i + 1, _, _, _, _, rfl, by go_num, st6⟩
          case measure => simp [intOf]; omega
      · obtain rfl : i = n := by omega
        have hte : es = tot := by rw [← ht, List.drop_of_length_le (by omega)]; simp [evsM]
        have HZ : Hid (es9 = es) := HE0.out.trans hte.symm
        clear hr ht hte HE0 pS hO pP
        go_wp2
        go_ret2
        rw [HZ.out]
        exact ⟨⟨_, rfl, q⟩, bw⟩
  · have hne : (cd != 0) = true := by simp [hcz]
    have HZ : Hid (es9 = []) := by rw [Hid, HE.out, if_neg hcz]
    clear HE HF0 HT0 hcz pS hO pP
    go_wp2
    go_ret2
    rw [HZ.out]
    exact ⟨⟨_, rfl, q⟩, bw⟩
end Go.Proofs.YtmhngodbnoonhaaGreatDoor


/-
  Both sides' EventsOf.
-/
namespace Go.Proofs.YtmhngodbnoonhaaGreatDoor
open Go.RowKit
set_option linter.unusedVariables false
set_option linter.unusedSimpArgs false

set_option maxHeartbeats 800000 in
set_option maxRecDepth 100000 in
theorem implEventsOf_is (a : Option Addr) (len cap : Nat) (rows : List (List I3)) (la : Option Addr) (n c : Nat) (ks : List Int) (w : World) (hC : Codes w a len cap rows) (hV : VmShape w) (hL : Ints .i64 w la n c ks) :
    Calls Tryz.prog 8 #[.agg #[.slice a len cap], .slice la n c] w fun e w' => EvGot e w' w.heap.size (evE rows ks) (evK rows ks) ∧ Below w.heap.size w w' := by
  unfold evE evK
  rw [hL.1]
  have bw : Below w.heap.size w (w.alloc (.cells #[.slice a len cap] 25)) := by go_grown
  have pP : Blk (w.alloc (.cells #[.slice a len cap] 25)) w.heap.size 25 [.slice a len cap] := blkAt _ _ _ rfl
  by_cases hn : 4096 < n
  · have hn' : (4096 : Int) < (n : Int) := by omega
    simp only [if_pos hn]
    clear hC hL hn pP hV
    go_enter Tryz.func8, Tryz.ntmps8
    go_wp2
    go_ret2
    exact ⟨⟨_, rfl, World.ownsRow_nil _ _ _ _⟩, bw⟩
  simp only [if_neg hn]
  have hn' : ¬ (4096 : Int) < (n : Int) := by omega
  cases hp : progOk rows
  · have kN := fun W (b : Below w.heap.size w W) => newReplay_bad (hC.below b) (hV.below b) hp
    simp only [Bool.false_eq_true, if_false]
    clear hp hC hL hn hV
    go_enter Tryz.func8, Tryz.ntmps8
    go_wp2_with fail
    generalize (w.alloc (.cells #[.slice a len cap] 25)) = U at *
    go_wp2_with (first | refine wpList_load_blk rfl 25 _ rfl w.heap.size rfl pP _ Tryz.underlying25 rfl (by kernel_rfl) ?_)
    refine (kN _ bw).mono ?_
    rintro e w1 ⟨rfl, hb⟩
    replace bw := bel_trans bw hb
    have pN := Blk.new w1 73 [.slice none 0 0, .int .i64 0, .int .i64 0, .int .i64 0, .slice none 0 0, .int .i64 0, .int .i64 0, .int .i64 0, .slice none 0 0, .int .i64 0, .int .i64 0, .int .i64 0, .int .i64 0, .int .i64 0, .int .i64 0, .int .i64 0, .int .i64 0, .int .i64 0, .slice none 0 0]
    have ha : Below w1.heap.size w1 (w1.alloc (.cells #[.slice none 0 0, .int .i64 0, .int .i64 0, .int .i64 0, .slice none 0 0, .int .i64 0, .int .i64 0, .int .i64 0, .slice none 0 0, .int .i64 0, .int .i64 0, .int .i64 0, .int .i64 0, .int .i64 0, .int .i64 0, .int .i64 0, .int .i64 0, .int .i64 0, .slice none 0 0] 73)) := by go_grown
    have hgw : w.heap.size ≤ w1.heap.size := bw.size
    clear kN hb pP
    go_wp2_with (refine wpList_store_blk rfl 73 _ _ rfl w1.heap.size [.slice none 0 0, .int .i64 0, .int .i64 0, .int .i64 0, .slice none 0 0, .int .i64 0, .int .i64 0, .int .i64 0, .slice none 0 0, .int .i64 0, .int .i64 0, .int .i64 0, .int .i64 0, .int .i64 0, .int .i64 0, .int .i64 0, .int .i64 0, .int .i64 0, .slice none 0 0] rfl rfl pN (by kernel_rfl) rfl rfl ?_)
    intro W9 pM g1
    replace bw := (bel_trans bw ha).grown g1 (by simp; omega) (fun x hx => by cases hx; omega)
    clear g1 ha pN pM
    generalize w1.heap.size = g at *
    go_wp2
    go_ret2
    exact ⟨⟨_, rfl, World.ownsRow_nil _ _ _ _⟩, bw⟩
  · simp only [if_true]
    obtain ⟨rfl, cs, hR⟩ := hC.rowsAt hp
    exact implEventsOf_ok a cap rows la n c ks w hC hV hp hL hn

set_option maxHeartbeats 800000 in
set_option maxRecDepth 100000 in
theorem l05Ask_is (a : Option Addr) (len cap : Nat) (rows : List (List I3)) (la : Option Addr) (n c : Nat) (w : World) (hC : Codes w a len cap rows) (hn : ¬ 4096 < n) :
    Calls Tryz.prog 38 #[.agg #[.slice a len cap], .slice la n c] w fun e w' => e = .returned (.int .i64 (if progOk rows then 0 else 1)) ∧ Below w.heap.size w w' := by
  have bw : Below w.heap.size w (w.alloc (.cells #[.slice a len cap] 25)) := by go_grown
  have pP : Blk (w.alloc (.cells #[.slice a len cap] 25)) w.heap.size 25 [.slice a len cap] := blkAt _ _ _ rfl
  have hn' : ¬ (4096 : Int) < (n : Int) := by omega
  have kP := fun W (b : Below w.heap.size w W) => specProgramOK_is a len cap rows W (hC.below b)
  cases hp : progOk rows
  · rw [hp] at kP
    clear hC hn hp
    go_enter Tryz.func38, Tryz.ntmps38
    go_wp2_with fail
    generalize (w.alloc (.cells #[.slice a len cap] 25)) = U at *
    go_wp2_with (first | refine wpList_load_blk rfl 25 _ rfl w.heap.size rfl pP _ Tryz.underlying25 rfl (by kernel_rfl) ?_)
    refine (kP _ bw).mono ?_
    rintro e w1 ⟨rfl, hb⟩
    replace bw := bel_trans bw hb
    clear hb kP pP
    go_wp2
    go_ret
    exact ⟨rfl, bw⟩
  · rw [hp] at kP
    clear hC hn hp
    go_enter Tryz.func38, Tryz.ntmps38
    go_wp2_with fail
    generalize (w.alloc (.cells #[.slice a len cap] 25)) = U at *
    go_wp2_with (first | refine wpList_load_blk rfl 25 _ rfl w.heap.size rfl pP _ Tryz.underlying25 rfl (by kernel_rfl) ?_)
    refine (kP _ bw).mono ?_
    rintro e w1 ⟨rfl, hb⟩
    replace bw := bel_trans bw hb
    clear hb kP pP
    go_wp2
    go_ret
    exact ⟨rfl, bw⟩

set_option maxHeartbeats 800000 in
set_option maxRecDepth 100000 in
theorem specEventsOf_is (a : Option Addr) (len cap : Nat) (rows : List (List I3)) (la : Option Addr) (n c : Nat) (ks : List Int) (w : World) (hC : Codes w a len cap rows) (hL : Ints .i64 w la n c ks) :
    Calls Tryz.prog 9 #[.agg #[.slice a len cap], .slice la n c] w fun e w' => EvGot e w' w.heap.size (evE rows ks) (evK rows ks) ∧ Below w.heap.size w w' := by
  unfold evE evK
  rw [hL.1]
  have bw : Below w.heap.size w (w.alloc (.cells #[.slice a len cap] 25)) := by go_grown
  have pP : Blk (w.alloc (.cells #[.slice a len cap] 25)) w.heap.size 25 [.slice a len cap] := blkAt _ _ _ rfl
  by_cases hn : 4096 < n
  · have hn' : (4096 : Int) < (n : Int) := by omega
    simp only [if_pos hn]
    clear hC hL hn pP
    go_enter Tryz.func9, Tryz.ntmps9
    go_wp2
    go_ret2
    exact ⟨⟨_, rfl, by simpa [flat4] using own_emptyB (w.alloc (.cells #[.slice a len cap] 25)) 38 4 w.heap.size (by simp)⟩, bel_trans bw (by go_grown)⟩
  simp only [if_neg hn]
  have hn' : ¬ (4096 : Int) < (n : Int) := by omega
  have kA := fun W (b : Below w.heap.size w W) => l05Ask_is a len cap rows la n c W (hC.below b) hn
  cases hp : progOk rows
  · rw [hp] at kA
    simp only [Bool.false_eq_true, if_false] at kA ⊢
    clear hp hC hL hn
    go_enter Tryz.func9, Tryz.ntmps9
    go_wp2_with fail
    generalize (w.alloc (.cells #[.slice a len cap] 25)) = U at *
    go_wp2_with (first | refine wpList_load_blk rfl 25 _ rfl w.heap.size rfl pP _ Tryz.underlying25 rfl (by kernel_rfl) ?_)
    refine (kA _ bw).mono ?_
    rintro e w1 ⟨rfl, hb⟩
    replace bw := bel_trans bw hb
    have q := own_emptyB w1 38 4 w.heap.size bw.size
    have bz := bel_trans bw (by go_grown : Below w1.heap.size w1 (w1.alloc (.cells #[] 38)))
    clear hb kA pP bw
    go_wp2
    go_ret2
    exact ⟨⟨_, rfl, q⟩, bz⟩
  · rw [hp] at kA
    simp only [if_true] at kA ⊢
    obtain ⟨rfl, cs, hR⟩ := hC.rowsAt hp
    have kE := fun W (b : Below w.heap.size w W) => l05Events_is (cap := cap) (hR.below b) hp (hL.below b) (by omega)
    generalize (if (runI rows zeroV [] ks).2.2 = 0 then evsM rows zeroV ks else []) = es at *
    generalize (runI rows zeroV [] ks).2.2 = cd at *
    clear hp hC hL hn hR
    go_enter Tryz.func9, Tryz.ntmps9
    go_wp2_with fail
    generalize (w.alloc (.cells #[.slice a 3 cap] 25)) = U at *
    go_wp2_with (first | refine wpList_load_blk rfl 25 _ rfl w.heap.size rfl pP _ Tryz.underlying25 rfl (by kernel_rfl) ?_)
    refine (kA _ bw).mono ?_
    rintro e w1 ⟨rfl, hb⟩
    replace bw := bel_trans bw hb
    replace pP := pP.below hb
    clear hb kA
    go_wp2_with (first | refine wpList_load_blk rfl 25 _ rfl w.heap.size rfl pP _ Tryz.underlying25 rfl (by kernel_rfl) ?_)
    refine (kE _ bw).mono ?_
    rintro e w2 ⟨⟨v, rfl, q⟩, hb⟩
    replace q := own_lowerB (B' := w.heap.size) q bw.size
    replace bw := bel_trans bw hb
    clear hb kE pP
    go_wp2
    go_ret2
    exact ⟨⟨_, rfl, q⟩, bw⟩
theorem evE_len (rows : List (List I3)) (ks : List Int) : (evE rows ks).length ≤ 5000 := by
  have key : ∀ (ks : List Int) (m : V4), (evsM rows m ks).length = ks.length := fun ks => by
    induction ks with
    | nil => intro m; rfl
    | cons k ks ih => intro m; simp only [evsM, List.length_cons, ih]
  unfold evE
  split
  · simp
  · split
    · split
      · rw [key]; omega
      · simp
    · simp
end Go.Proofs.YtmhngodbnoonhaaGreatDoor


/-
  Two steps of two threads that do not depend on one another come to the same in either order.
-/
namespace Go.Proofs.YtmhngodbnoonhaaGreatDoor
open Go.RowKit
set_option linter.unusedVariables false
set_option linter.unusedSimpArgs false

/-- What a step does, part by part. -/
def pcC (m : V4) (x : I3) (k : Nat) : Int := if x.1 = 7 ∧ m.2.2.2.getD (k * 2 + x.2.1.toNat) 0 ≠ 0 then x.2.2 else m.1.getD k 0 + 1
def shC (m : V4) (x : I3) (k : Nat) : List Int := if x.1 = 2 then m.2.1.set x.2.1.toNat (m.2.2.2.getD (k * 2 + x.2.2.toNat) 0) else m.2.1
def lkC (m : V4) (x : I3) (k : Nat) : List Int := if x.1 = 5 then m.2.2.1.set x.2.1.toNat (k + 1) else if x.1 = 6 ∧ m.2.2.1.getD x.2.1.toNat 0 = k + 1 then m.2.2.1.set x.2.1.toNat 0 else m.2.2.1
def rgC (m : V4) (x : I3) (k : Nat) : List Int := if x.1 = 1 then m.2.2.2.set (k * 2 + x.2.1.toNat) (m.2.1.getD x.2.2.toNat 0) else if x.1 = 3 then m.2.2.2.set (k * 2 + x.2.1.toNat) x.2.2 else if x.1 = 4 then m.2.2.2.set (k * 2 + x.2.1.toNat) ((m.2.2.2.getD (k * 2 + x.2.1.toNat) 0 + x.2.2) % 10) else m.2.2.2
theorem step_parts (m : V4) (x : I3) (k : Nat) : (stepM m x k).1 = (m.1.set k (pcC m x k), shC m x k, lkC m x k, rgC m x k) := by
  unfold stepM pcC shC lkC rgC
  rcases op_cases x with h | h | h | h | h | h | h | h | ⟨h1, h2, h3, h4, h5, h6, h7, h8⟩
  · simp [h]
  · simp [h]
  · simp [h]
  · simp [h]
  · simp [h]
  · simp [h]; split <;> simp
  · simp [h]; split <;> simp_all
  · simp [h]; split <;> simp
  · simp [h1, h2, h3, h4, h5, h6, h7]; split <;> simp
/-- A register of a thread is the thread's own. -/
theorem reg_own {k l : Nat} (h : k ≠ l) {a b : Int} (ha : 0 ≤ a ∧ a ≤ 1) (hb : 0 ≤ b ∧ b ≤ 1) : k * 2 + a.toNat ≠ l * 2 + b.toNat := by omega
/-- Its numbers' bounds, by what it is. -/
theorem ok_bounds {x : I3} (h : okI x = true) : (x.1 ≠ 2 → 0 ≤ x.2.1 ∧ x.2.1 ≤ 1) ∧ (x.1 = 1 → 0 ≤ x.2.2 ∧ x.2.2 ≤ 3) ∧ (x.1 = 2 → (0 ≤ x.2.1 ∧ x.2.1 ≤ 3) ∧ 0 ≤ x.2.2 ∧ x.2.2 ≤ 1) := by
  unfold okI at h
  simp only [inB, Bool.and_eq_true, decide_eq_true_eq] at h
  repeat' split at h
  all_goals simp_all
/-- They touch one place or lock, and do not both but load. -/
def clashI (x y : I3) : Prop := 0 ≤ objM x ∧ objM x = objM y ∧ ¬ (x.1 = 1 ∧ y.1 = 1)
theorem reg_kept {m : V4} {y : I3} {k l : Nat} (h : k ≠ l) (hy : okI y = true) {a : Int} (ha : 0 ≤ a ∧ a ≤ 1) : (rgC m y l).getD (k * 2 + a.toNat) 0 = m.2.2.2.getD (k * 2 + a.toNat) 0 := by
  have hb := ok_bounds hy
  unfold rgC
  repeat' split
  all_goals first
    | rfl
    | (refine getD_set_ne (reg_own h ha (hb.1 ?_)); omega)
theorem sh_kept {m : V4} {x y : I3} {l : Nat} (hx : okI x = true) (hy : okI y = true) (hc : ¬ clashI x y) (h1 : x.1 = 1) : (shC m y l).getD x.2.2.toNat 0 = m.2.1.getD x.2.2.toNat 0 := by
  have ha := ok_bounds hx
  have hb := ok_bounds hy
  unfold shC
  split
  · rename_i h2
    refine getD_set_ne (fun e => hc ?_)
    have := ha.2.1 h1
    have := (hb.2.2 h2).1
    unfold clashI objM
    simp [h1, h2]
    omega
  · rfl
theorem lk_kept {m : V4} {x y : I3} {l : Nat} (hx : okI x = true) (hy : okI y = true) (hc : ¬ clashI x y) (h1 : x.1 = 5 ∨ x.1 = 6) : (lkC m y l).getD x.2.1.toNat 0 = m.2.2.1.getD x.2.1.toNat 0 := by
  have ha := (ok_bounds hx).1
  have hb := (ok_bounds hy).1
  have key : y.1 = 5 ∨ y.1 = 6 → x.2.1.toNat ≠ y.2.1.toNat := fun h2 e => hc (by
    have h3 := ha (by omega)
    have h4 := hb (by omega)
    have hxo : objM x = 4 + x.2.1 := by unfold objM; rw [if_neg (by omega), if_neg (by omega), if_pos h1]
    have hyo : objM y = 4 + y.2.1 := by unfold objM; rw [if_neg (by omega), if_neg (by omega), if_pos h2]
    refine ⟨by omega, by rw [hxo, hyo]; omega, by omega⟩)
  unfold lkC
  repeat' split
  · exact getD_set_ne (key (by omega))
  · exact getD_set_ne (key (by omega))
  · rfl
theorem clash_symm {x y : I3} (h : ¬ clashI x y) : ¬ clashI y x := fun ⟨a, b, c⟩ => h ⟨by omega, b.symm, fun e => c ⟨e.2, e.1⟩⟩
theorem pcC_kept {m : V4} {x y : I3} {k l : Nat} (h : k ≠ l) (hx : okI x = true) (hy : okI y = true) : pcC (stepM m y l).1 x k = pcC m x k := by
  rw [step_parts]
  have ha := ok_bounds hx
  unfold pcC
  simp only
  rw [getD_set_ne h]
  by_cases h7 : x.1 = 7
  · rw [reg_kept h hy (ha.1 (by omega))]
  · simp [h7]
def putO (u : Option Int) (R : List Int) (i : Nat) : List Int := match u with | none => R | some z => R.set i z
/-- Steps of two threads that do not clash change places. -/
theorem step_commute {m : V4} {x y : I3} {k l : Nat} (h : k ≠ l) (hx : okI x = true) (hy : okI y = true) (hc : ¬ clashI x y) : (stepM (stepM m x k).1 y l).1 = (stepM (stepM m y l).1 x k).1 := by
  have hc' := clash_symm hc
  have bx := ok_bounds hx
  have by' := ok_bounds hy
  have p1 := pcC_kept (m := m) h hx hy
  have p2 := pcC_kept (m := m) (Ne.symm h) hy hx
  rw [step_parts (stepM m x k).1, step_parts (stepM m y l).1, p1, p2]
  have e1 : (stepM m x k).1.1 = m.1.set k (pcC m x k) := by rw [step_parts]
  have e2 : (stepM m y l).1.1 = m.1.set l (pcC m y l) := by rw [step_parts]
  have hsx : (stepM m x k).1.2.1 = shC m x k := by rw [step_parts]
  have hsy : (stepM m y l).1.2.1 = shC m y l := by rw [step_parts]
  have hlx : (stepM m x k).1.2.2.1 = lkC m x k := by rw [step_parts]
  have hly : (stepM m y l).1.2.2.1 = lkC m y l := by rw [step_parts]
  have hrx : (stepM m x k).1.2.2.2 = rgC m x k := by rw [step_parts]
  have hry : (stepM m y l).1.2.2.2 = rgC m y l := by rw [step_parts]
  refine Prod.ext ?_ (Prod.ext ?_ (Prod.ext ?_ ?_))
  · simp only
    rw [e1, e2, List.set_comm _ _ h]
  · simp only
    unfold shC
    rw [hsx, hsy, hrx, hry]
    by_cases x2 : x.1 = 2
    · have rx := reg_kept (m := m) (y := y) h hy (bx.2.2 x2).2
      by_cases y2 : y.1 = 2
      · have ry := reg_kept (m := m) (y := x) (Ne.symm h) hx (by'.2.2 y2).2
        have hne : x.2.1.toNat ≠ y.2.1.toNat := fun e => hc (by
          have := (bx.2.2 x2).1
          have := (by'.2.2 y2).1
          unfold clashI objM
          simp [x2, y2]
          omega)
        rw [if_pos y2, if_pos x2, rx, ry]
        unfold shC
        rw [if_pos x2, if_pos y2, List.set_comm _ _ hne]
      · rw [if_neg y2, if_pos x2, rx]
        unfold shC
        rw [if_pos x2, if_neg y2]
    · by_cases y2 : y.1 = 2
      · have ry := reg_kept (m := m) (y := x) (Ne.symm h) hx (by'.2.2 y2).2
        rw [if_pos y2, if_neg x2, ry]
        unfold shC
        rw [if_neg x2, if_pos y2]
      · rw [if_neg y2, if_neg x2]
        unfold shC
        rw [if_neg x2, if_neg y2]
  · simp only
    have kx : (x.1 = 5 ∨ x.1 = 6) → (lkC m y l).getD x.2.1.toNat 0 = m.2.2.1.getD x.2.1.toNat 0 := fun g => lk_kept hx hy hc g
    have ky : (y.1 = 5 ∨ y.1 = 6) → (lkC m x k).getD y.2.1.toNat 0 = m.2.2.1.getD y.2.1.toNat 0 := fun g => lk_kept hy hx hc' g
    have hne : (x.1 = 5 ∨ x.1 = 6) → (y.1 = 5 ∨ y.1 = 6) → x.2.1.toNat ≠ y.2.1.toNat := fun h1 h2 e => hc (by
      have h3 := bx.1 (by omega)
      have h4 := by'.1 (by omega)
      have hxo : objM x = 4 + x.2.1 := by unfold objM; rw [if_neg (by omega), if_neg (by omega), if_pos h1]
      have hyo : objM y = 4 + y.2.1 := by unfold objM; rw [if_neg (by omega), if_neg (by omega), if_pos h2]
      exact ⟨by omega, by rw [hxo, hyo]; omega, by omega⟩)
    have ex : ∀ L : List Int, (x.1 = 5 ∨ x.1 = 6 → L.getD x.2.1.toNat 0 = m.2.2.1.getD x.2.1.toNat 0) → (if x.1 = 5 then L.set x.2.1.toNat ((k : Int) + 1) else if x.1 = 6 ∧ L.getD x.2.1.toNat 0 = (k : Int) + 1 then L.set x.2.1.toNat 0 else L) = (if x.1 = 5 then L.set x.2.1.toNat ((k : Int) + 1) else if x.1 = 6 ∧ m.2.2.1.getD x.2.1.toNat 0 = (k : Int) + 1 then L.set x.2.1.toNat 0 else L) := fun L g => by
      by_cases a6 : x.1 = 6
      · rw [g (.inr a6)]
      · simp [a6]
    have ey : ∀ L : List Int, (y.1 = 5 ∨ y.1 = 6 → L.getD y.2.1.toNat 0 = m.2.2.1.getD y.2.1.toNat 0) → (if y.1 = 5 then L.set y.2.1.toNat ((l : Int) + 1) else if y.1 = 6 ∧ L.getD y.2.1.toNat 0 = (l : Int) + 1 then L.set y.2.1.toNat 0 else L) = (if y.1 = 5 then L.set y.2.1.toNat ((l : Int) + 1) else if y.1 = 6 ∧ m.2.2.1.getD y.2.1.toNat 0 = (l : Int) + 1 then L.set y.2.1.toNat 0 else L) := fun L g => by
      by_cases a6 : y.1 = 6
      · rw [g (.inr a6)]
      · simp [a6]
    unfold lkC
    rw [hlx, hly, ey _ ky, ex _ kx]
    unfold lkC
    by_cases x5 : x.1 = 5
    · by_cases y5 : y.1 = 5
      · simp only [x5, y5, if_true]
        exact List.set_comm _ _ (hne (.inl x5) (.inl y5))
      · by_cases y6 : y.1 = 6 ∧ m.2.2.1.getD y.2.1.toNat 0 = (l : Int) + 1
        · simp only [if_pos x5, if_neg y5, if_pos y6]
          exact List.set_comm _ _ (hne (.inl x5) (.inr y6.1))
        · simp only [if_pos x5, if_neg y5, if_neg y6]
    · by_cases x6 : x.1 = 6 ∧ m.2.2.1.getD x.2.1.toNat 0 = (k : Int) + 1
      · by_cases y5 : y.1 = 5
        · simp only [if_neg x5, if_pos x6, if_pos y5]
          exact List.set_comm _ _ (hne (.inr x6.1) (.inl y5))
        · by_cases y6 : y.1 = 6 ∧ m.2.2.1.getD y.2.1.toNat 0 = (l : Int) + 1
          · simp only [if_neg x5, if_pos x6, if_neg y5, if_pos y6]
            exact List.set_comm _ _ (hne (.inr x6.1) (.inr y6.1))
          · simp only [if_neg x5, if_pos x6, if_neg y5, if_neg y6]
      · simp only [if_neg x5, if_neg x6]
  · simp only
    have sx : x.1 = 1 → (shC m y l).getD x.2.2.toNat 0 = m.2.1.getD x.2.2.toNat 0 := fun g => sh_kept hx hy hc g
    have sy : y.1 = 1 → (shC m x k).getD y.2.2.toNat 0 = m.2.1.getD y.2.2.toNat 0 := fun g => sh_kept hy hx hc' g
    have rx : x.1 = 4 → (rgC m y l).getD (k * 2 + x.2.1.toNat) 0 = m.2.2.2.getD (k * 2 + x.2.1.toNat) 0 := fun g => reg_kept h hy (bx.1 (by omega))
    have ry : y.1 = 4 → (rgC m x k).getD (l * 2 + y.2.1.toNat) 0 = m.2.2.2.getD (l * 2 + y.2.1.toNat) 0 := fun g => reg_kept (Ne.symm h) hx (by'.1 (by omega))
    have hne : x.1 ≠ 2 → y.1 ≠ 2 → k * 2 + x.2.1.toNat ≠ l * 2 + y.2.1.toNat := fun a b => reg_own h (bx.1 a) (by'.1 b)
    obtain ⟨u, hu⟩ : ∃ u : Option Int, ∀ (S R : List Int), (x.1 = 1 → S.getD x.2.2.toNat 0 = m.2.1.getD x.2.2.toNat 0) → (x.1 = 4 → R.getD (k * 2 + x.2.1.toNat) 0 = m.2.2.2.getD (k * 2 + x.2.1.toNat) 0) → (if x.1 = 1 then R.set (k * 2 + x.2.1.toNat) (S.getD x.2.2.toNat 0) else if x.1 = 3 then R.set (k * 2 + x.2.1.toNat) x.2.2 else if x.1 = 4 then R.set (k * 2 + x.2.1.toNat) ((R.getD (k * 2 + x.2.1.toNat) 0 + x.2.2) % 10) else R) = putO u (R) (k * 2 + x.2.1.toNat) ∧ (u ≠ none → x.1 ≠ 2) := by
      by_cases a1 : x.1 = 1
      · exact ⟨some (m.2.1.getD x.2.2.toNat 0), fun S R g1 g4 => ⟨by rw [if_pos a1, g1 a1]; rfl, fun _ => by omega⟩⟩
      · by_cases a3 : x.1 = 3
        · exact ⟨some x.2.2, fun S R g1 g4 => ⟨by rw [if_neg a1, if_pos a3]; rfl, fun _ => by omega⟩⟩
        · by_cases a4 : x.1 = 4
          · exact ⟨some ((m.2.2.2.getD (k * 2 + x.2.1.toNat) 0 + x.2.2) % 10), fun S R g1 g4 => ⟨by rw [if_neg a1, if_neg a3, if_pos a4, g4 a4]; rfl, fun _ => by omega⟩⟩
          · exact ⟨none, fun S R g1 g4 => ⟨by rw [if_neg a1, if_neg a3, if_neg a4]; rfl, fun g => absurd rfl g⟩⟩
    obtain ⟨v, hv⟩ : ∃ v : Option Int, ∀ (S R : List Int), (y.1 = 1 → S.getD y.2.2.toNat 0 = m.2.1.getD y.2.2.toNat 0) → (y.1 = 4 → R.getD (l * 2 + y.2.1.toNat) 0 = m.2.2.2.getD (l * 2 + y.2.1.toNat) 0) → (if y.1 = 1 then R.set (l * 2 + y.2.1.toNat) (S.getD y.2.2.toNat 0) else if y.1 = 3 then R.set (l * 2 + y.2.1.toNat) y.2.2 else if y.1 = 4 then R.set (l * 2 + y.2.1.toNat) ((R.getD (l * 2 + y.2.1.toNat) 0 + y.2.2) % 10) else R) = putO v (R) (l * 2 + y.2.1.toNat) ∧ (v ≠ none → y.1 ≠ 2) := by
      by_cases a1 : y.1 = 1
      · exact ⟨some (m.2.1.getD y.2.2.toNat 0), fun S R g1 g4 => ⟨by rw [if_pos a1, g1 a1]; rfl, fun _ => by omega⟩⟩
      · by_cases a3 : y.1 = 3
        · exact ⟨some y.2.2, fun S R g1 g4 => ⟨by rw [if_neg a1, if_pos a3]; rfl, fun _ => by omega⟩⟩
        · by_cases a4 : y.1 = 4
          · exact ⟨some ((m.2.2.2.getD (l * 2 + y.2.1.toNat) 0 + y.2.2) % 10), fun S R g1 g4 => ⟨by rw [if_neg a1, if_neg a3, if_pos a4, g4 a4]; rfl, fun _ => by omega⟩⟩
          · exact ⟨none, fun S R g1 g4 => ⟨by rw [if_neg a1, if_neg a3, if_neg a4]; rfl, fun g => absurd rfl g⟩⟩
    have f1 := hv (shC m x k) (rgC m x k) sy ry
    have f2 := hu (shC m y l) (rgC m y l) sx rx
    have f3 := hu m.2.1 m.2.2.2 (fun _ => rfl) (fun _ => rfl)
    have f4 := hv m.2.1 m.2.2.2 (fun _ => rfl) (fun _ => rfl)
    have g3 : rgC m x k = putO u (m.2.2.2) (k * 2 + x.2.1.toNat) := f3.1
    have g4 : rgC m y l = putO v (m.2.2.2) (l * 2 + y.2.1.toNat) := f4.1
    have g1 : rgC (stepM m x k).1 y l = putO v (rgC m x k) (l * 2 + y.2.1.toNat) := by
      rw [← f1.1]
      show rgC (stepM m x k).1 y l = _
      unfold rgC
      rw [hsx, hrx]
      rfl
    have g2 : rgC (stepM m y l).1 x k = putO u (rgC m y l) (k * 2 + x.2.1.toNat) := by
      rw [← f2.1]
      show rgC (stepM m y l).1 x k = _
      unfold rgC
      rw [hsy, hry]
      rfl
    rw [g1, g2, g3, g4]
    cases u with
    | none => cases v <;> rfl
    | some a =>
      cases v with
      | none => rfl
      | some b => exact List.set_comm _ _ (hne (f3.2 (by simp)) (f4.2 (by simp)))
end Go.Proofs.YtmhngodbnoonhaaGreatDoor


/-
  Neighbours of a schedule that do not depend on one another change places: the same state, the same events.
-/
namespace Go.Proofs.YtmhngodbnoonhaaGreatDoor
open Go.RowKit
set_option linter.unusedVariables false
set_option linter.unusedSimpArgs false

theorem goM_natC (rows : List (List I3)) (m : V4) (k : Nat) : goM rows m (k : Int) = stepM m (insM rows m k) k := by unfold goM; rw [Int.toNat_natCast]
theorem done_other {rows : List (List I3)} {m : V4} {x : I3} {k l : Nat} (h : k ≠ l) : doneM rows (stepM m x k).1 l = doneM rows m l := by unfold doneM; rw [stepM_other m x (Ne.symm h)]
theorem ins_other {rows : List (List I3)} {m : V4} {x : I3} {k l : Nat} (h : k ≠ l) : insM rows (stepM m x k).1 l = insM rows m l := by unfold insM; rw [stepM_other m x (Ne.symm h)]
theorem event_other {rows : List (List I3)} {m : V4} {x : I3} {k l : Nat} (h : k ≠ l) : eventM rows (stepM m x k).1 l = eventM rows m l := by unfold eventM; rw [ins_other h, stepM_other m x (Ne.symm h)]
theorem lock_other {m : V4} {x y : I3} {k : Nat} (hx : okI x = true) (hy : okI y = true) (hc : ¬ clashI x y) : atLock (stepM m x k).1 y = atLock m y := by
  unfold atLock
  by_cases h5 : y.1 = 5
  · rw [step_parts]
    simp only
    rw [lk_kept hy hx (clash_symm hc) (.inl h5)]
  · simp [h5]
theorem dep_clash {rows : List (List I3)} {m : V4} {k l : Nat} (hd : depM (eventM rows m k) (eventM rows m l) = false) : k ≠ l ∧ ¬ clashI (insM rows m k) (insM rows m l) := by
  unfold depM eventM at hd
  simp only [Bool.or_eq_false_iff, decide_eq_false_iff_not] at hd
  obtain ⟨h1, h2⟩ := hd
  refine ⟨fun e => h1 (by rw [e]), ?_⟩
  rintro ⟨a, b, c⟩
  have e1 : decide (0 ≤ objM (insM rows m k)) = true := by simp [a]
  have e2 : decide (objM (insM rows m k) = objM (insM rows m l)) = true := by simp [b]
  have e3 : (decide ((insM rows m k).1 = 1) && decide ((insM rows m l).1 = 1)) = false := by
    cases e : (decide ((insM rows m k).1 = 1) && decide ((insM rows m l).1 = 1))
    · rfl
    · simp only [Bool.and_eq_true, decide_eq_true_eq] at e
      exact absurd e c
  rw [e1, e2, e3] at h2
  cases h2
theorem halt_go {rows : List (List I3)} {m : V4} {k : Nat} (hk : k < 3) (hc : canM rows m k = true) : haltM rows m (k : Int) = 0 := by
  have hd := (can_parts hc).1
  unfold haltM
  rw [if_pos (by omega), Int.toNat_natCast]
  simp [hd, hc]
theorem go_commute {rows : List (List I3)} {m : V4} {k l : Nat} (hp : progOk rows = true) (hs : shapeOk m = true) (h1 : haltM rows m (k : Int) = 0) (h2 : haltM rows (goM rows m (k : Int)).1 (l : Int) = 0) (hd : depM (eventM rows m k) (eventM rows (goM rows m (k : Int)).1 l) = false) :
    haltM rows m (l : Int) = 0 ∧ haltM rows (goM rows m (l : Int)).1 (k : Int) = 0 ∧ (goM rows (goM rows m (l : Int)).1 (k : Int)).1 = (goM rows (goM rows m (k : Int)).1 (l : Int)).1 ∧ eventM rows m l = eventM rows (goM rows m (k : Int)).1 l ∧ eventM rows (goM rows m (l : Int)).1 k = eventM rows m k := by
  obtain ⟨a0, a1, a2, a3⟩ := halt_can h1
  obtain ⟨b0, b1, b2, b3⟩ := halt_can h2
  rw [Int.toNat_natCast] at a2 a3 b2 b3
  have hk : k < 3 := by omega
  have hl : l < 3 := by omega
  simp only [goM_natC] at *
  have hkl : k ≠ l := fun e => by
    subst e
    unfold depM eventM at hd
    simp at hd
  rw [event_other hkl] at hd
  obtain ⟨_, hc⟩ := dep_clash hd
  rw [done_other hkl] at b2
  obtain ⟨_, _, _, _, ox⟩ := at_ins hp hs hk a2
  obtain ⟨_, _, _, _, oy⟩ := at_ins hp hs hl b2
  have c1 : canM rows m l = true := by
    unfold canM at b3 ⊢
    rw [done_other hkl, ins_other hkl, lock_other ox oy hc] at b3
    exact b3
  have c2 : canM rows (stepM m (insM rows m l) l).1 k = true := by
    unfold canM at a3 ⊢
    rw [done_other (Ne.symm hkl), ins_other (Ne.symm hkl), lock_other oy ox (clash_symm hc)]
    exact a3
  refine ⟨halt_go hl c1, halt_go hk c2, ?_, (event_other hkl).symm, event_other (Ne.symm hkl)⟩
  rw [ins_other hkl, ins_other (Ne.symm hkl)]
  exact (step_commute hkl ox oy hc).symm
theorem runI_fs (rows : List (List I3)) : ∀ (ks : List Int) (m : V4) (fs fs' : List I3), (runI rows m fs ks).1 = (runI rows m fs' ks).1 ∧ (runI rows m fs ks).2.2 = (runI rows m fs' ks).2.2
  | [], m, fs, fs' => ⟨rfl, rfl⟩
  | k :: ks, m, fs, fs' => by
    have e : ∀ f, runI rows m f (k :: ks) = if haltM rows m k = 0 then runI rows (goM rows m k).1 (f ++ ownM rows m k) ks else (m, f, haltM rows m k) := fun f => rfl
    rw [e, e]
    split
    · exact runI_fs rows ks _ _ _
    · exact ⟨rfl, rfl⟩
theorem runI_cons {rows : List (List I3)} {m : V4} {fs : List I3} {k : Int} {ks : List Int} (h : (runI rows m fs (k :: ks)).2.2 = 0) : haltM rows m k = 0 ∧ runI rows m fs (k :: ks) = runI rows (goM rows m k).1 (fs ++ ownM rows m k) ks := by
  have e : runI rows m fs (k :: ks) = if haltM rows m k = 0 then runI rows (goM rows m k).1 (fs ++ ownM rows m k) ks else (m, fs, haltM rows m k) := rfl
  by_cases hz : haltM rows m k = 0
  · rw [if_pos hz] at e
    exact ⟨hz, e⟩
  · rw [e, if_neg hz] at h
    exact absurd h hz
theorem runI_yes {rows : List (List I3)} {m : V4} {fs : List I3} {k : Int} {ks : List Int} (hz : haltM rows m k = 0) : runI rows m fs (k :: ks) = runI rows (goM rows m k).1 (fs ++ ownM rows m k) ks := by
  show (if haltM rows m k = 0 then _ else _) = _
  rw [if_pos hz]
theorem run_swap {rows : List (List I3)} {m : V4} {fs : List I3} {k l : Int} {ks : List Int} (hp : progOk rows = true) (hs : shapeOk m = true) (h : (runI rows m fs (k :: l :: ks)).2.2 = 0) (hd : depM (eventM rows m k.toNat) (eventM rows (goM rows m k).1 l.toNat) = false) :
    (runI rows m fs (l :: k :: ks)).1 = (runI rows m fs (k :: l :: ks)).1 ∧ (runI rows m fs (l :: k :: ks)).2.2 = 0 ∧ evsM rows m (l :: k :: ks) = eventM rows (goM rows m k).1 l.toNat :: eventM rows m k.toNat :: evsM rows (goM rows (goM rows m k).1 l).1 ks := by
  obtain ⟨h1, e1⟩ := runI_cons h
  rw [e1] at h ⊢
  obtain ⟨h2, e2⟩ := runI_cons h
  rw [e2] at h ⊢
  obtain ⟨a0, a1, _, _⟩ := halt_can h1
  obtain ⟨b0, b1, _, _⟩ := halt_can h2
  obtain ⟨k', rfl⟩ : ∃ k' : Nat, k = k' := ⟨k.toNat, by omega⟩
  obtain ⟨l', rfl⟩ : ∃ l' : Nat, l = l' := ⟨l.toNat, by omega⟩
  simp only [Int.toNat_natCast] at hd ⊢
  obtain ⟨g1, g2, g3, g4, g5⟩ := go_commute hp hs h1 h2 hd
  rw [runI_yes g1, runI_yes g2, g3]
  obtain ⟨f1, f2⟩ := runI_fs rows ks (goM rows (goM rows m (k' : Int)).1 (l' : Int)).1 (fs ++ ownM rows m (l' : Int) ++ ownM rows (goM rows m (l' : Int)).1 (k' : Int)) (fs ++ ownM rows m (k' : Int) ++ ownM rows (goM rows m (k' : Int)).1 (l' : Int))
  refine ⟨f1, f2.trans h, ?_⟩
  show eventM rows m (l' : Int).toNat :: eventM rows (goM rows m (l' : Int)).1 (k' : Int).toNat :: evsM rows (goM rows (goM rows m (l' : Int)).1 (k' : Int)).1 ks = _
  rw [Int.toNat_natCast, Int.toNat_natCast, g3, g4, g5]
theorem run_app {rows : List (List I3)} : ∀ (pre ks : List Int) (m : V4) (fs : List I3), (runI rows m fs pre).2.2 = 0 → runI rows m fs (pre ++ ks) = runI rows (runI rows m fs pre).1 (runI rows m fs pre).2.1 ks ∧ evsM rows m (pre ++ ks) = evsM rows m pre ++ evsM rows (runI rows m fs pre).1 ks
  | [], ks, m, fs, _ => ⟨rfl, rfl⟩
  | k :: pre, ks, m, fs, h => by
    obtain ⟨h1, e1⟩ := runI_cons h
    rw [e1] at h ⊢
    obtain ⟨i1, i2⟩ := run_app pre ks _ _ h
    rw [List.cons_append, runI_yes h1, i1]
    refine ⟨rfl, ?_⟩
    show eventM rows m k.toNat :: evsM rows (goM rows m k).1 (pre ++ ks) = eventM rows m k.toNat :: (evsM rows (goM rows m k).1 pre ++ _)
    rw [i2]
theorem run_pre {rows : List (List I3)} : ∀ (pre ks : List Int) (m : V4) (fs : List I3), (runI rows m fs (pre ++ ks)).2.2 = 0 → (runI rows m fs pre).2.2 = 0
  | [], ks, m, fs, _ => rfl
  | k :: pre, ks, m, fs, h => by
    rw [List.cons_append] at h
    obtain ⟨h1, e1⟩ := runI_cons h
    rw [runI_yes h1]
    rw [e1] at h
    exact run_pre pre ks _ _ h
theorem evsM_len (rows : List (List I3)) : ∀ (ks : List Int) (m : V4), (evsM rows m ks).length = ks.length
  | [], m => rfl
  | k :: ks, m => by show (evsM rows (goM rows m k).1 ks).length + 1 = ks.length + 1; rw [evsM_len rows ks]
/-- Neighbours change places, wherever they stand. -/
theorem swap_at {rows : List (List I3)} (hp : progOk rows = true) (pre ks : List Int) (k l : Int) (h : (runI rows zeroV [] (pre ++ k :: l :: ks)).2.2 = 0) :
    ∃ e1 e2 rest, evsM rows zeroV (pre ++ k :: l :: ks) = evsM rows zeroV pre ++ e1 :: e2 :: rest ∧ (depM e1 e2 = false → (runI rows zeroV [] (pre ++ l :: k :: ks)).1 = (runI rows zeroV [] (pre ++ k :: l :: ks)).1 ∧ (runI rows zeroV [] (pre ++ l :: k :: ks)).2.2 = 0 ∧ evsM rows zeroV (pre ++ l :: k :: ks) = evsM rows zeroV pre ++ e2 :: e1 :: rest) := by
  have h0 := run_pre pre (k :: l :: ks) zeroV [] h
  have a1 := run_app pre (k :: l :: ks) zeroV [] h0
  have a2 := run_app pre (l :: k :: ks) zeroV [] h0
  have hs := (runI_ok hp pre zeroV [] zero_shape (by simp)).1
  rw [a1.1] at h
  refine ⟨_, _, _, a1.2, fun hd => ?_⟩
  obtain ⟨s1, s2, s3⟩ := run_swap hp hs h hd
  rw [a1.1, a2.1, a2.2, s3]
  exact ⟨s1, s2, rfl⟩
end Go.Proofs.YtmhngodbnoonhaaGreatDoor


/-
  The program's NormalOf.
-/
namespace Go.Proofs.YtmhngodbnoonhaaGreatDoor
open Go.RowKit
set_option linter.unusedVariables false
set_option linter.unusedSimpArgs false

def LGot (e : Ending) (w : World) (B : Nat) (ks : List Int) (c : Int) : Prop := ∃ v, e = .returned (.tuple #[v, .int .i64 c]) ∧ w.ownsRow B 3 1 v ks.length (ks.map (Value.int .i64))
noncomputable def stJ (es : List I4) (s : Nat) : (Nat → Nat) × List Nat := stI (depE es) (thE es) es.length s
theorem stJ_next (es : List I4) (s : Nat) : stJ es (s + 1) = (fun t => (stJ es s).1 t + (if t = leastT (okN (depE es) (thE es) (stJ es s).1) (thE es) es.length then 1 else 0), (stJ es s).2 ++ [leastT (okN (depE es) (thE es) (stJ es s).1) (thE es) es.length]) := rfl
theorem stJ_bound (es : List I4) (t : Nat) : ∀ s, (stJ es s).1 t ≤ s
  | 0 => Nat.le_refl _
  | s + 1 => by
    rw [stJ_next]
    have := stJ_bound es t s
    show (stJ es s).1 t + _ ≤ _
    split <;> omega
theorem stJ_least {es : List I4} (h : inThree es) {s : Nat} (hs : s < es.length) : leastT (okN (depE es) (thE es) (stJ es s).1) (thE es) es.length < 3 := by
  obtain ⟨_, _, _, h4⟩ := norm_same (D := depE es) (B := befB (depE es)) (depE_thread h) (thE_three h) (n := es.length) (fun i k _ _ => befB_iff) s (by omega)
  obtain ⟨b, _, _, hl⟩ := h4 hs
  unfold stJ
  rw [hl]
  exact thE_three h b
theorem stJ_end {es : List I4} (h : inThree es) : (stJ es es.length).2.map (fun t : Nat => (t : Int)) = nrmE es := by
  unfold nrmE stJ
  rw [(norm_is h).2]
theorem stJ_len (es : List I4) : ∀ s, (stJ es s).2.length = s
  | 0 => rfl
  | s + 1 => by rw [stJ_next, List.length_append, stJ_len es s]; rfl
theorem nrmE_len {es : List I4} (h : inThree es) : (nrmE es).length = es.length := by
  rw [← stJ_end h, List.length_map, stJ_len]
/-- The threads of a schedule's events are the three. -/
theorem evsM_three {rows : List (List I3)} : ∀ (ks : List Int) (m : V4) (fs : List I3), (runI rows m fs ks).2.2 = 0 → inThree (evsM rows m ks)
  | [], _, _, _ => fun x hx => by simp [evsM] at hx
  | k :: ks, m, fs, h => by
    obtain ⟨hz, he⟩ := runI_cons h
    rw [he] at h
    have ih := evsM_three ks _ _ h
    obtain ⟨h0, h2, _⟩ := halt_can hz
    intro x hx
    simp only [evsM, List.mem_cons] at hx
    rcases hx with rfl | hx
    · show 0 ≤ (eventM rows m k.toNat).1 ∧ (eventM rows m k.toNat).1 < 3
      unfold eventM
      simp only
      omega
    · exact ih x hx
theorem evE_three (rows : List (List I3)) (ks : List Int) : inThree (evE rows ks) := by
  unfold evE
  split
  · intro x hx; simp at hx
  · split
    · split
      · rename_i h; exact evsM_three ks _ _ h
      · intro x hx; simp at hx
    · intro x hx; simp at hx
theorem evE_len9 (rows : List (List I3)) (ks : List Int) : (evE rows ks).length ≤ 4096 := by
  unfold evE
  split
  · simp
  · split
    · split
      · rw [evsM_len]; omega
      · simp
    · simp
theorem evE_nil {rows : List (List I3)} {ks : List Int} (h : evK rows ks ≠ 0) : evE rows ks = [] := by
  unfold evK at h
  unfold evE
  split at h
  · rename_i h1; rw [if_pos h1]
  · rename_i h1
    rw [if_neg h1]
    split at h
    · rename_i h2; rw [if_pos h2, if_neg h]
    · rename_i h2; rw [if_neg h2]
theorem nrmE_nil : nrmE [] = [] := rfl
/-- On the way. -/
def OnNrm (w wr : World) (gT : Nat) (es : List I4) (s : Nat) (v : Value) : Prop :=
  Blk wr gT 87 (tab 3 fun u => .int .i64 ((stJ es s).1 u : Nat)) ∧ wr.ownsRow w.heap.size 3 1 v s (((stJ es s).2.map (fun t : Nat => (t : Int))).map (Value.int .i64)) ∧ Below w.heap.size w wr

set_option maxHeartbeats 2000000 in
set_option maxRecDepth 100000 in
theorem implNormalOf_is (a : Option Addr) (len cap : Nat) (rows : List (List I3)) (la : Option Addr) (n c : Nat) (ks : List Int) (w : World) (hC : Codes w a len cap rows) (hV : VmShape w) (hL : Ints .i64 w la n c ks) :
    Calls Tryz.prog 15 #[.agg #[.slice a len cap], .slice la n c] w fun e w' => LGot e w' w.heap.size (nrmE (evE rows ks)) (evK rows ks) ∧ Below w.heap.size w w' := by
  obtain ⟨i1, hi, hz3, hz4, hz5⟩ := info_parts info_int
  have hI := evE_three rows ks
  have hE := evE_len9 rows ks
  have kE := fun W (b : Below w.heap.size w W) => implEventsOf_is a len cap rows la n c ks W (hC.below b) (hV.below b) (hL.below b)
  have HN : Hid (evK rows ks ≠ 0 → nrmE (evE rows ks) = []) := fun h => by rw [evE_nil h]; rfl
  generalize evE rows ks = es at *
  generalize evK rows ks = cd at *
  have bw : Below w.heap.size w (w.alloc (.cells #[.slice a len cap] 25)) := by go_grown
  have pP : Blk (w.alloc (.cells #[.slice a len cap] 25)) w.heap.size 25 [.slice a len cap] := blkAt _ _ _ rfl
  clear hC hV hL
  go_enter Tryz.func15, Tryz.ntmps15
  go_wp2_with fail
  generalize (w.alloc (.cells #[.slice a len cap] 25)) = U at *
  go_wp2_with (first | refine wpList_load_blk rfl 25 _ rfl w.heap.size rfl pP _ Tryz.underlying25 rfl (by kernel_rfl) ?_)
  refine (kE _ bw).mono ?_
  rintro e w1 ⟨⟨v, rfl, q⟩, hb⟩
  replace bw := bel_trans bw hb
  clear kE pP hb
  by_cases hcd : cd = 0
  case neg =>
    have hne : (cd != 0) = true := by simp [hcd]
    have HE : Hid (nrmE es = []) := HN.out hcd
    clear q HN hcd
    go_wp2
    go_ret2
    rw [HE.out]
    exact ⟨⟨_, rfl, World.ownsRow_nil _ _ _ _⟩, bw⟩
  subst hcd
  clear HN
  obtain ⟨ea, ec, rfl, hEv⟩ := evs_slice q
  have hec : es.length ≤ ec := by
    rcases q.2 with ⟨h1, _⟩ | ⟨g9, cap9, cur9, h1, _, _, h2, _⟩
    · simp at h1; omega
    · simp at h1; omega
  clear q
  obtain ⟨n9, hn9⟩ : ∃ n9, n9 = es.length := ⟨_, rfl⟩
  rw [← hn9] at hEv hE hec ⊢
  have HL : Hid (n9 = es.length) := hn9
  clear hn9
  have kC := clocksOf_is ea n9 ec es w1 hEv hE hec hI
  go_wp2_with fail
  refine kC.mono ?_
  rintro e w2 ⟨gC, rfl, pC, hgC, hb⟩
  have hEv2 := hEv.below hb
  have bw2 := bel_trans bw hb
  have hw1 : w.heap.size ≤ gC := Nat.le_trans bw.size hgC
  clear kC hb bw hEv hgC
  have ha : Below w2.heap.size w2 (w2.alloc (.cells #[.int .i64 0, .int .i64 0, .int .i64 0] 87)) := by go_grown
  have pT := Blk.new w2 87 [.int .i64 0, .int .i64 0, .int .i64 0]
  have st : OnNrm w2 (w2.alloc (.cells #[.int .i64 0, .int .i64 0, .int .i64 0] 87)) w2.heap.size es 0 (.slice none 0 0) := ⟨pT, World.ownsRow_nil _ _ _ _, ha⟩
  have HLs : Hid (∀ s, s < n9 → leastT (okN (depE es) (thE es) (stJ es s).1) (thE es) n9 < 3) := fun s hs => by
    have := stJ_least hI (s := s) (by rw [← HL.out]; exact hs)
    rw [← HL.out] at this
    exact this
  have HNx : Hid (∀ s, stJ es (s + 1) = (fun t => (stJ es s).1 t + (if t = leastT (okN (depE es) (thE es) (stJ es s).1) (thE es) n9 then 1 else 0), (stJ es s).2 ++ [leastT (okN (depE es) (thE es) (stJ es s).1) (thE es) n9])) := fun s => by rw [HL.out]; exact stJ_next es s
  have kL := fun W (b : Below w2.heap.size w2 W) (f : Nat → Nat) (hf : ∀ t, f t ≤ 5000) => leastThread_is ea n9 ec gC es W (hEv2.below b) hE hI (pC.below b) f hf
  unfold ck at kL
  obtain ⟨gT, hgT⟩ : ∃ gT, gT = w2.heap.size := ⟨_, rfl⟩
  have hgTw : w2.heap.size ≤ gT := by omega
  rw [← hgT] at st
  have HG : Hid (gT = w2.heap.size) := hgT
  clear pC hEv2 pT ha hgT
  go_wp2_with fail
  rw [← HG.out]
  go_loopw [9, 25] (fun sv si wr => ∃ (s : Nat) (vv : Value), s ≤ n9 ∧ vv = sv ∧ si = .int .i64 s ∧ OnNrm w2 wr gT es s vv) (fun _ si _ => n9 - (intOf si).toNat)
  case atStart => exact ⟨0, _, by omega, rfl, rfl, st⟩
  case round =>
    clear st
    obtain ⟨s, vv, hs, rfl, rfl, pT, q, b2⟩ := hrel
    by_cases hsn : s < n9
    · have hsn' : (s : Int) < (n9 : Int) := by omega
      have kLx := kL wr b2 (stJ es s).1 (fun t => by have := stJ_bound es t s; omega)
      have hl3 := HLs.out s hsn
      have HX : Hid (stJ es (s + 1) = _) := HNx.out s
      have hll := stJ_len es s
      have hbd := fun t => stJ_bound es t s
      generalize leastT (okN (depE es) (thE es) (stJ es s).1) (thE es) n9 = l at *
      have pT9 := pT
      rw [tab_three] at pT9
      go_wp2_with (first | refine wpList_load_blk rfl 87 _ rfl gT rfl pT9 _ Tryz.underlying87 rfl (by kernel_rfl) ?_)
      refine kLx.mono ?_
      rintro e w3 ⟨rfl, hb⟩
      have pT3 := pT.below hb
      have q3 := owns_below q hb
      have b3 := bel_trans b2 hb
      clear kLx hb pT pT9 q b2
      have ht9 : (l : Int) < 3 := by omega
      have ht8 : (0 : Int) ≤ (l : Int) := by omega
      have c0 := (pT3.cell l).trans (tab_get _ hl3)
      have f0 := pT3.frozen l
      have hft := hbd l
      have pT4 : Hid (Blk (w3.setCell ⟨gT, l, none⟩ (.int .i64 (((stJ es s).1 l : Nat) + 1 : Int))) gT 87 (tab 3 fun u => .int .i64 ((stJ es (s + 1)).1 u : Nat))) := by
        have := pT3.set l (.int .i64 (((stJ es s).1 l : Nat) + 1 : Int))
        rw [tab_set] at this
        unfold Hid
        rw [HX.out]
        refine this.trans ?_
        congr 3
        refine tab_congr (fun u _ => ?_)
        by_cases e : u = l
        · subst e; simp
        · simp [e]
      have gs : w3.grownBy (w3.setCell ⟨gT, l, none⟩ (.int .i64 (((stJ es s).1 l : Nat) + 1 : Int))) (some gT) := ⟨rfl, rfl, rfl, by simp, fun i _ hr => Below.heap_setCell w3 ⟨gT, l, none⟩ _ i (fun e => hr (by rw [e]))⟩
      have q4 := q3.kept gs (.inr (own_ne_blk q3 pT3 (by decide)))
      have b4 := b3.grown gs b3.size (fun x hx => by cases hx; exact hgTw)
      have hsz := b4.size
      clear pT3 q3 b3 gs
      obtain ⟨wx, hwx⟩ : ∃ wx, wx = w3.setCell ⟨gT, l, none⟩ (.int .i64 (((stJ es s).1 l : Nat) + 1 : Int)) := ⟨_, rfl⟩
      rw [← hwx] at pT4 q4 b4 hsz
      have HW : Hid (wx = w3.setCell ⟨gT, l, none⟩ (.int .i64 (((stJ es s).1 l : Nat) + 1 : Int))) := hwx
      have HZ : Hid (w3.heap.size = wx.heap.size) := by rw [Hid, hwx]; simp
      clear hwx
      go_wp2_with (at_builtin; rw [← HW.out]; (try rw [HZ.out]); refine wpList_append_own _ rfl _ _ 27 rfl w2.heap.size 3 i1 (.int .i64 0) 1 8 Tryz.underlying27 hi hz3 hz4 hz5 rfl (by decide) _ _ _ rfl (q4.alloc _) ⟨wx.heap.size, 0, none⟩ 1 1 [.int .i64 (l : Int)] rfl rfl (cell_one_new _ _ _) (by simp [Value.oneCell']) ?c3 ?c4 ?c5 ?_)
      case c3 => unfold maxLen; omega
      case c4 => omega
      case c5 => simp; omega
      intro v' wn hown' hgrow hx9
      clear hx9
      have ha : Below wx.heap.size wx (wx.alloc (.cells #[.int .i64 (l : Int)] 3)) := by go_grown
      have R : wn.ownsRow w2.heap.size 3 1 v' (s + 1) (((stJ es (s + 1)).2.map (fun t : Nat => (t : Int))).map (Value.int .i64)) := by
        rw [HX.out]
        simp only [List.map_append, List.map_map, List.map_cons, List.map_nil, Function.comp_apply]
        exact hown'
      have qa := owns_below q4 ha
      have st2 : OnNrm w2 wn gT es (s + 1) v' := by
        have pTa := pT4.out.below ha
        exact ⟨pTa.kept hgrow (own_ne_blk qa pTa (by decide)), R, (bel_trans b4 ha).grown hgrow (Nat.le_trans hsz ha.size) (fun x hx => (q4.lt x hx).1)⟩
      clear hown' hgrow R qa ha q4 pT4 b4
      go_wp2
      go_roundw
      case rel => exact ⟨s + 1, _, by omega, rfl, by go_num, st2⟩
      case measure => simp [intOf]; omega
    · obtain rfl : s = n9 := by omega
      have HE : Hid ((stJ es s).2.map (fun t : Nat => (t : Int)) = nrmE es) := by
        have := stJ_end hI
        rw [← HL.out] at this
        exact this
      have hl9 : (nrmE es).length = s := by rw [← HE.out, List.length_map, stJ_len]
      rw [HE.out] at q
      have q9 := own_lowerB (B' := w.heap.size) q bw2.size
      have b9 := bel_trans bw2 b2
      clear pT q
      go_wp2
      go_ret2
      exact ⟨⟨_, rfl, by rw [hl9]; exact q9⟩, b9⟩
end Go.Proofs.YtmhngodbnoonhaaGreatDoor


/-
  The specification's l05Same: whether two rows of numbers are the same.
-/
namespace Go.Proofs.YtmhngodbnoonhaaGreatDoor
open Go.RowKit

theorem ext_getDL {xs ys : List Int} (hl : xs.length = ys.length) (h : ∀ i, i < xs.length → xs.getD i 0 = ys.getD i 0) : xs = ys := by
  refine List.ext_getElem hl (fun i h1 h2 => ?_)
  have := h i h1
  simpa [List.getD, h1, h2] using this

end Go.Proofs.YtmhngodbnoonhaaGreatDoor
