/-
  Joined: MatP, NrmS, OrdS.
-/
import Derived.Test.YtmhngodbnoonhaaDoorProg
import Derived.Deep.RegionHeld3
import Derived.KernelRfl
import Derived.Tactics
import Derived.WalkKit
import Derived.WalkSpells
import Derived.WalkLawsBesides
import Derived.RegionTactic
import Derived.BigQuiet
import Derived.Deep.QuietTactic
import Derived.Deep.Slices
import Derived.Deep.Strs
import Derived.Deep.Fields
import Derived.ChangeSame
import Derived.Handy
import Derived.ChangeSlices
import Derived.Lib.SmallJoins
import Derived.OwnWalk
import Derived.Shelf.Abstract
import Derived.Laws.BytesArg
import Derived.Deep.RegionLaw
import Derived.Laws.OwnMore
import Derived.Laws.CopyOwn
import Derived.Laws.Tables
import Derived.IntWalk
import Derived.Test.YtmhngodbnoonhaaDoorK01
import Derived.Test.YtmhngodbnoonhaaDoorK02
import Derived.Test.YtmhngodbnoonhaaDoorK04
import Derived.Test.YtmhngodbnoonhaaDoorK07
import Derived.Test.YtmhngodbnoonhaaDoorK22
import Derived.Test.YtmhngodbnoonhaaDoorK23
import Derived.Test.YtmhngodbnoonhaaDoorK24

/-
  The specification's table of what must be ahead of what, cell by cell; pairs counted both ways.
-/
namespace Go.Proofs.YtmhngodbnoonhaaDoor
set_option linter.unusedVariables false

noncomputable def befB (D : Nat → Nat → Bool) (i k : Nat) : Bool := @decide (Bef D i k) (Classical.propDecidable _)
theorem befB_iff {D : Nat → Nat → Bool} {i k : Nat} : befB D i k = true ↔ Bef D i k := by
  unfold befB
  exact @decide_eq_true_iff _ (Classical.propDecidable _)
theorem bool_ext {a b : Bool} (h : a = true ↔ b = true) : a = b := by
  cases a <;> cases b <;> simp_all
noncomputable def colB (D : Nat → Nat → Bool) (k i h : Nat) : Bool := @decide (∃ j, i ≤ j ∧ j < k ∧ D j k = true ∧ (h = j ∨ Bef D h j)) (Classical.propDecidable _)
theorem colB_iff {D : Nat → Nat → Bool} {k i h : Nat} : colB D k i h = true ↔ ∃ j, i ≤ j ∧ j < k ∧ D j k = true ∧ (h = j ∨ Bef D h j) := by
  unfold colB
  exact @decide_eq_true_iff _ (Classical.propDecidable _)
noncomputable def midB (D : Nat → Nat → Bool) (k i c h : Nat) : Bool := colB D k (i + 1) h || (h == i || (decide (h < c) && befB D h i))
theorem colB_top (D : Nat → Nat → Bool) (k h : Nat) : colB D k k h = false := by
  cases e : colB D k k h
  · rfl
  · obtain ⟨j, h1, h2, _⟩ := colB_iff.1 e
    omega
theorem colB_skip {D : Nat → Nat → Bool} {k i : Nat} (hd : D i k = false) (h : Nat) : colB D k i h = colB D k (i + 1) h := by
  refine bool_ext ?_
  rw [colB_iff, colB_iff]
  constructor
  · rintro ⟨j, h1, h2, h3, h4⟩
    refine ⟨j, ?_, h2, h3, h4⟩
    by_cases e : i = j
    · subst e; rw [hd] at h3; cases h3
    · omega
  · rintro ⟨j, h1, h2, h3, h4⟩
    exact ⟨j, by omega, h2, h3, h4⟩
theorem midB_zero (D : Nat → Nat → Bool) (k i h : Nat) : midB D k i 0 h = (colB D k (i + 1) h || h == i) := by simp [midB]
theorem midB_succ (D : Nat → Nat → Bool) (k i c h : Nat) : midB D k i (c + 1) h = (midB D k i c h || (h == c && befB D c i)) := by
  refine bool_ext ?_
  unfold midB
  simp only [Bool.or_eq_true, Bool.and_eq_true, decide_eq_true_eq, beq_iff_eq]
  constructor
  · rintro (h1 | h1 | ⟨h1, h2⟩)
    · exact .inl (.inl h1)
    · exact .inl (.inr (.inl h1))
    · by_cases e : h = c
      · exact .inr ⟨e, by rw [← e]; exact h2⟩
      · exact .inl (.inr (.inr ⟨by omega, h2⟩))
  · rintro ((h1 | h1 | ⟨h1, h2⟩) | ⟨h1, h2⟩)
    · exact .inl h1
    · exact .inr (.inl h1)
    · exact .inr (.inr ⟨by omega, h2⟩)
    · exact .inr (.inr ⟨by omega, by rw [h1]; exact h2⟩)
theorem midB_end {D : Nat → Nat → Bool} {k i : Nat} (hd : D i k = true) (hi : i < k) (h : Nat) : midB D k i i h = colB D k i h := by
  refine bool_ext ?_
  unfold midB
  simp only [Bool.or_eq_true, Bool.and_eq_true, decide_eq_true_eq, beq_iff_eq]
  rw [colB_iff, colB_iff, befB_iff]
  constructor
  · rintro (⟨j, h1, h2, h3, h4⟩ | h1 | ⟨h1, h2⟩)
    · exact ⟨j, by omega, h2, h3, h4⟩
    · exact ⟨i, Nat.le_refl _, hi, hd, .inl h1⟩
    · exact ⟨i, Nat.le_refl _, hi, hd, .inr h2⟩
  · rintro ⟨j, h1, h2, h3, h4⟩
    by_cases e : i = j
    · subst e
      rcases h4 with h4 | h4
      · exact .inr (.inl h4)
      · exact .inr (.inr ⟨h4.lt, h4⟩)
    · exact .inl ⟨j, by omega, h2, h3, h4⟩
theorem colB_all (D : Nat → Nat → Bool) (k h : Nat) : colB D k 0 h = befB D h k := by
  refine bool_ext ?_
  rw [colB_iff, befB_iff, bef_iff]
  constructor
  · rintro ⟨j, _, h2, h3, h4⟩
    exact ⟨j, h2, h3, h4⟩
  · rintro ⟨j, h2, h3, h4⟩
    exact ⟨j, by omega, h2, h3, h4⟩

def sumN (f : Nat → Nat) : Nat → Nat
  | 0 => 0
  | n + 1 => sumN f n + f n
theorem sumN_congr {f g : Nat → Nat} : ∀ n, (∀ i, i < n → f i = g i) → sumN f n = sumN g n
  | 0, _ => rfl
  | n + 1, h => by
    show sumN f n + f n = sumN g n + g n
    rw [sumN_congr n (fun i hi => h i (by omega)), h n (by omega)]
theorem sumN_add (f g : Nat → Nat) : ∀ n, sumN (fun i => f i + g i) n = sumN f n + sumN g n
  | 0 => rfl
  | n + 1 => by
    show sumN (fun i => f i + g i) n + (f n + g n) = (sumN f n + f n) + (sumN g n + g n)
    rw [sumN_add f g n]
    omega
def pairsJ (f : Nat → Nat → Nat) (n : Nat) : Nat := sumN (fun j => sumN (fun i => f i j) j) n
def fromTo (f : Nat → Nat) (a b : Nat) : Nat := sumN (fun d => f (a + d)) (b - a)
theorem fromTo_succ (f : Nat → Nat) {a b : Nat} (h : a ≤ b) : fromTo f a (b + 1) = fromTo f a b + f b := by
  unfold fromTo
  rw [show b + 1 - a = (b - a) + 1 by omega]
  show sumN _ (b - a) + f (a + (b - a)) = _
  rw [show a + (b - a) = b by omega]
def pairsI (f : Nat → Nat → Nat) (n : Nat) : Nat := sumN (fun i => fromTo (f i) (i + 1) n) n
theorem pairs_same (f : Nat → Nat → Nat) : ∀ n, pairsI f n = pairsJ f n
  | 0 => rfl
  | n + 1 => by
    have ih := pairs_same f n
    have e1 : pairsJ f (n + 1) = pairsJ f n + sumN (fun i => f i n) n := rfl
    have e2 : pairsI f (n + 1) = sumN (fun i => fromTo (f i) (i + 1) (n + 1)) n + fromTo (f n) (n + 1) (n + 1) := rfl
    have e3 : fromTo (f n) (n + 1) (n + 1) = 0 := by unfold fromTo; rw [Nat.sub_self]; rfl
    have e4 : sumN (fun i => fromTo (f i) (i + 1) (n + 1)) n = sumN (fun i => fromTo (f i) (i + 1) n + f i n) n := sumN_congr n (fun i hi => fromTo_succ (f i) (by omega))
    rw [e2, e3, e4, sumN_add, e1, ← ih]
    rfl
end Go.Proofs.YtmhngodbnoonhaaDoor


/-
  What both sides reckon is the normal form of the row of events.
-/
namespace Go.Proofs.YtmhngodbnoonhaaDoor
set_option linter.unusedVariables false

def evAt (es : List I4) (i : Nat) : I4 := es.getD i (0, 0, 0, 0)
def thE (es : List I4) (i : Nat) : Nat := (evAt es i).1.toNat
def depE (es : List I4) (i k : Nat) : Bool := depM (evAt es i) (evAt es k)
def inThree (es : List I4) : Prop := ∀ x ∈ es, 0 ≤ x.1 ∧ x.1 < 3
theorem evAt_mem {es : List I4} {i : Nat} (h : i < es.length) : evAt es i ∈ es := by
  unfold evAt
  simp only [List.getD, List.getElem?_eq_getElem h, Option.getD_some]
  exact List.getElem_mem h
theorem evAt_three {es : List I4} (h : inThree es) (i : Nat) : 0 ≤ (evAt es i).1 ∧ (evAt es i).1 < 3 := by
  by_cases hi : i < es.length
  · exact h _ (evAt_mem hi)
  · unfold evAt
    simp [List.getD, List.getElem?_eq_none (Nat.le_of_not_lt hi)]
theorem thE_three {es : List I4} (h : inThree es) (i : Nat) : thE es i < 3 := by
  have := evAt_three h i
  unfold thE
  omega
theorem thE_int {es : List I4} (h : inThree es) (i : Nat) : ((thE es i : Nat) : Int) = (evAt es i).1 := by
  have := evAt_three h i
  unfold thE
  omega
theorem depE_thread {es : List I4} (h : inThree es) (i k : Nat) (_ : i < k) (ht : thE es i = thE es k) : depE es i k = true := by
  refine depM_thread ?_
  rw [← thE_int h i, ← thE_int h k, ht]
end Go.Proofs.YtmhngodbnoonhaaDoor


/-
  The specification's l05Order: the table of what must be ahead of what.
-/
namespace Go.Proofs.YtmhngodbnoonhaaDoor
open Go.RowKit
set_option linter.unusedVariables false
set_option linter.unusedSimpArgs false

theorem info_boolO : (Tryd.prog.info? 4).map (fun i => (i.zero, i.size, i.bytes)) = some (some (.bool false), 1, 1) := by kernel_rfl
def OrdGot (e : Ending) (w w' : World) (n : Nat) (D : Nat → Nat → Bool) : Prop := ∃ g, e = .returned (.slice (some ⟨g, 0, none⟩) (n * n) (n * n)) ∧ Blk w' g 4 (tab2 n (befB D)) ∧ w.heap.size ≤ g ∧ Below w.heap.size w w'
noncomputable def ordF (D : Nat → Nat → Bool) (k : Nat) (f : Nat → Bool) (h c : Nat) : Bool := if c < k then befB D h c else if c = k then f h else false
theorem ordF_next {n k : Nat} {D : Nat → Nat → Bool} : tab2 n (ordF D k (befB D · k)) = tab2 n (ordF D (k + 1) (fun _ => false)) := by
  refine tab2_congr (fun i c _ _ => ?_)
  unfold ordF
  by_cases h1 : c < k
  · rw [if_pos h1, if_pos (by omega)]
  · rw [if_neg h1]
    by_cases h2 : c = k
    · rw [if_pos h2, if_pos (by omega), h2]
    · rw [if_neg h2, if_neg (by omega)]
      split <;> rfl
theorem ordF_set {n k i : Nat} {D : Nat → Nat → Bool} {f : Nat → Bool} (hi : i < n) (hk : k < n) : (tab2 n (ordF D k f)).set (i * n + k) (.bool true) = tab2 n (ordF D k (fun h => f h || h == i)) := by
  rw [tab2_set _ _ hi hk]
  refine tab2_congr (fun h c _ _ => ?_)
  unfold ordF
  by_cases h1 : c < k
  · rw [if_neg (by omega), if_pos h1, if_pos h1]
  · rw [if_neg h1, if_neg h1]
    by_cases h2 : c = k
    · subst h2
      simp only [and_true, if_true]
      by_cases h3 : h = i
      · simp [h3]
      · simp [h3]
    · simp [h2]
theorem ordF_congr {n k : Nat} {D : Nat → Nat → Bool} {f g : Nat → Bool} (h : ∀ i, f i = g i) : tab2 n (ordF D k f) = tab2 n (ordF D k g) := by
  have : f = g := funext h
  rw [this]

set_option maxHeartbeats 2000000 in
set_option maxRecDepth 100000 in
theorem l05Order_is (a : Option Addr) (n c : Nat) (es : List I4) (w : World) (h : Evs w a n es) (hn : n ≤ 4096) :
    Calls Tryd.prog 68 #[.slice a n c] w fun e w' => OrdGot e w w' n (depE es) := by
  obtain ⟨i0, hi9, hz0, hz1, hz2⟩ := info_parts info_boolO
  obtain ⟨N, hN⟩ : ∃ N, N = n * n := ⟨_, rfl⟩
  have hNb : N ≤ 16777216 := by rw [hN]; exact Nat.mul_le_mul hn hn
  have hw := wrap_sq hN hNb
  unfold OrdGot
  rw [← hN]
  have HN : Hid (N = n * n) := hN
  clear hN
  obtain ⟨D, hD⟩ : ∃ D, D = depE es := ⟨_, rfl⟩
  rw [← hD]
  have HD : Hid (D = depE es) := hD
  clear hD
  go_enter Tryd.func68, Tryd.ntmps68
  go_wp2_with (at_make; refine wpList_make_full _ rfl _ _ 44 rfl w.heap.size 4 i0 (.bool false) 1 Tryd.underlying44 hi9 hz0 hz1 _ _ _ _ N rfl rfl hw hw ?b2 ?b3 ?b4 ?_)
  case b2 => rw [hz2]; omega
  case b3 => unfold maxLen; omega
  case b4 => exact Nat.le_refl _
  intro w1 hown hgrow
  rw [made_tab] at hown
  have bw : Below w.heap.size w w1 := ⟨hgrow.os, hgrow.tape, hgrow.output, hgrow.size, fun k hk => hgrow.block k hk (by simp)⟩
  have pT : Hid (Blk w1 w.heap.size 4 (tab2 n (ordF D 0 (fun _ => false)))) := by
    have := (blk_of_full hown).1
    rw [HN.out] at this
    refine this.trans ?_
    congr 3
    refine tab_congr (fun i _ => ?_)
    unfold ordF
    simp
  clear hown hgrow
  obtain ⟨g, hg⟩ : ∃ g, g = w.heap.size := ⟨_, rfl⟩
  have hgw : w.heap.size ≤ g := by omega
  rw [← hg] at pT ⊢
  clear hg
  go_wp2_with fail
  go_loopw [5] (fun sk wr => ∃ k : Nat, k ≤ n ∧ sk = .int .i64 k ∧ Hid (Blk wr g 4 (tab2 n (ordF D k (fun _ => false)))) ∧ Below w.heap.size w wr) (fun sk _ => n - (intOf sk).toNat)
  case atStart => exact ⟨0, by omega, rfl, pT, bw⟩
  case round =>
    clear pT bw
    obtain ⟨k, hk, rfl, pT, bw⟩ := hrel
    by_cases hkn : k < n
    · have hkn' : (k : Int) < (n : Int) := by omega
      have pT2 : Hid (Blk wr g 4 (tab2 n (ordF D k (colB D k k)))) := by
        have e := ordF_congr (n := n) (k := k) (D := D) (f := colB D k k) (g := fun _ => false) (colB_top D k)
        unfold Hid
        rw [e]
        exact pT.out
      clear pT
      go_wp2_with fail
      go_loopw [6] (fun si wr => ∃ ii : Nat, ii ≤ k ∧ si = .int .i64 ((ii : Int) - 1) ∧ Hid (Blk wr g 4 (tab2 n (ordF D k (colB D k ii)))) ∧ Below w.heap.size w wr) (fun si _ => (intOf si + 1).toNat)
      case atStart => exact ⟨k, by omega, rfl, pT2, bw⟩
      case round =>
        clear pT2 bw
        obtain ⟨ii, hii, rfl, pT, bw⟩ := hrel
        rcases Nat.eq_zero_or_pos ii with rfl | hpos
        · have pT2 : Hid (Blk wr g 4 (tab2 n (ordF D (k + 1) (fun _ => false)))) := by
            have e := ordF_congr (n := n) (k := k) (D := D) (f := colB D k 0) (g := (befB D · k)) (colB_all D k)
            unfold Hid
            rw [← ordF_next, ← e]
            exact pT.out
          clear pT
          go_wp2
          go_roundw
          case rel => exact ⟨k + 1, by omega, by go_num, pT2, bw⟩
          case measure => simp [intOf]; omega
        · obtain ⟨i, rfl⟩ : ∃ i, ii = i + 1 := ⟨ii - 1, by omega⟩
          have hi0 : ((i + 1 : Nat) : Int) - 1 = (i : Int) := by omega
          rw [hi0]
          have hi9 : (0 : Int) ≤ (i : Int) := by omega
          have hin : (i : Int) < (n : Int) := by omega
          have hk0 : (0 : Int) ≤ (k : Int) := by omega
          obtain ⟨h1, h2, h3 | ⟨ge, rfl, hgl, hce⟩⟩ := h
          · clear h2; omega
          clear h2
          have gc := fun t ht => by
            have := hce t ht
            rw [← bw.cell (p := ⟨ge, _, none⟩) hgl, ← bw.cell (p := ⟨ge, _, none⟩) hgl, ← bw.cell (p := ⟨ge, _, none⟩) hgl, ← bw.cell (p := ⟨ge, _, none⟩) hgl] at this
            exact this
          obtain ⟨c0, c1, c2, c3⟩ := gc i (by omega)
          obtain ⟨e0, e1, e2, e3⟩ := gc k (by omega)
          clear gc
          have hDx : D i k = depM (es.getD i (0, 0, 0, 0)) (es.getD k (0, 0, 0, 0)) := by rw [HD.out]; rfl
          generalize es.getD i (0, 0, 0, 0) = x at c0 c1 c2 c3 hDx
          generalize es.getD k (0, 0, 0, 0) = y at e0 e1 e2 e3 hDx
          obtain ⟨M, P, hw1, hw2, hP, hP0, hPe⟩ := ix_two HN.out hNb (show i < n by omega) hkn
          have HP : Hid (P = i * n + k) := hPe
          clear hPe
          go_wp2_with fail
          go_region_held3 (fun w' => w'.cell? ⟨ge, i * 4, none⟩ = some (.int .i64 x.1) ∧ w'.cell? ⟨ge, i * 4 + 1, none⟩ = some (.int .i64 x.2.1) ∧ w'.cell? ⟨ge, i * 4 + 2, none⟩ = some (.int .i64 x.2.2.1) ∧ w'.cell? ⟨ge, i * 4 + 3, none⟩ = some (.int .i64 x.2.2.2) ∧ w'.cell? ⟨ge, k * 4, none⟩ = some (.int .i64 y.1) ∧ w'.cell? ⟨ge, k * 4 + 1, none⟩ = some (.int .i64 y.2.1) ∧ w'.cell? ⟨ge, k * 4 + 2, none⟩ = some (.int .i64 y.2.2.1) ∧ w'.cell? ⟨ge, k * 4 + 3, none⟩ = some (.int .i64 y.2.2.2)) (first | (exact ⟨c0, c1, c2, c3, e0, e1, e2, e3⟩) | (refine ⟨?_, ?_, ?_, ?_, ?_, ?_, ?_, ?_⟩ <;> (apply cells_kept (by assumption); assumption)) | go_keep)
            (first | (go_at_call 70; refine (specDepends_is x y _).mono ?_; rintro e w2 ⟨rfl, hb1⟩))
          rename_i hHeld
          rw [← hDx]
          have bw2 : Below w.heap.size w w2 := bel_trans bw (bel_trans (by go_grown) hb1)
          have pT2 : Hid (Blk w2 g 4 (tab2 n (ordF D k (colB D k (i + 1))))) := pT.out.below (bel_trans (by go_grown) hb1)
          clear pT hb1 bw c0 c1 c2 c3 e0 e1 e2 e3 hce
          cases hd : D i k
          · have pT3 : Hid (Blk w2 g 4 (tab2 n (ordF D k (colB D k i)))) := by
              have e := ordF_congr (n := n) (k := k) (D := D) (f := colB D k i) (g := colB D k (i + 1)) (colB_skip hd)
              unfold Hid
              rw [e]
              exact pT2.out
            clear pT2 hDx hHeld hd
            go_wp2
            go_roundw
            case rel => exact ⟨i, by omega, by go_num, pT3, bw2⟩
            case measure => simp [intOf] <;> omega
          · have qc := pT2.out.cell P
            have qf := pT2.out.frozen P
            rw [HP.out, tab2_get _ (by omega) hkn, ← HP.out] at qc
            have pT3 : Hid (Blk (w2.setCell ⟨g, P, none⟩ (.bool true)) g 4 (tab2 n (ordF D k (midB D k i 0)))) := by
              have := pT2.out.set P (.bool true)
              rw [HP.out, ordF_set (by omega) hkn, ← HP.out] at this
              have e := ordF_congr (n := n) (k := k) (D := D) (f := midB D k i 0) (g := fun h => colB D k (i + 1) h || h == i) (midB_zero D k i)
              unfold Hid
              rw [e]
              exact this
            have bw3 : Below w.heap.size w (w2.setCell ⟨g, P, none⟩ (.bool true)) := bw2.setCell hgw _
            clear hDx hHeld pT2 bw2
            go_wp2_with fail
            generalize w2.setCell ⟨g, P, none⟩ (.bool true) = w3 at *
            clear qc qf hw1 hw2 hP hP0 HP
            go_loopw [7] (fun sh wr => ∃ h : Nat, h ≤ i ∧ sh = .int .i64 h ∧ Hid (Blk wr g 4 (tab2 n (ordF D k (midB D k i h)))) ∧ Below w.heap.size w wr) (fun sh _ => i - (intOf sh).toNat)
            case atStart => exact ⟨0, by omega, rfl, pT3, bw3⟩
            case round =>
              clear pT3 bw3
              obtain ⟨h, hh, rfl, pT, bw⟩ := hrel
              by_cases hhi : h < i
              · have hhi' : (h : Int) < (i : Int) := by omega
                obtain ⟨M, P, hw1, hw2, hP, hP0, hPe⟩ := ix_two HN.out hNb (show h < n by omega) (show i < n by omega)
                have HP : Hid (P = h * n + i) := hPe
                obtain ⟨M', P', hw1', hw2', hP', hP0', hPe'⟩ := ix_two HN.out hNb (show h < n by omega) hkn
                have HP' : Hid (P' = h * n + k) := hPe'
                have eM : M' = M := by
                  exact (Int.ofNat_inj.1 (hw1.symm.trans hw1')).symm
                subst eM
                clear hPe hPe' hw1'
                have qc := pT.out.cell P
                rw [HP.out, tab2_get _ (by omega) (by omega), ← HP.out] at qc
                have eB : ordF D k (midB D k i h) h i = befB D h i := by unfold ordF; rw [if_pos (by omega)]
                rw [eB] at qc
                clear eB
                have qc' := pT.out.cell P'
                have qf' := pT.out.frozen P'
                rw [HP'.out, tab2_get _ (by omega) (by omega), ← HP'.out] at qc'
                cases hb : befB D h i
                · have pT3 : Hid (Blk wr g 4 (tab2 n (ordF D k (midB D k i (h + 1))))) := by
                    have e := ordF_congr (n := n) (k := k) (D := D) (f := midB D k i (h + 1)) (g := midB D k i h) (fun j => by rw [midB_succ, hb]; simp)
                    unfold Hid
                    rw [e]
                    exact pT.out
                  rw [hb] at qc
                  clear pT hb
                  go_wp2
                  go_roundw
                  case rel => exact ⟨h + 1, by omega, by go_num, pT3, bw⟩
                  case measure => simp [intOf]; omega
                · have pT3 : Hid (Blk (wr.setCell ⟨g, P', none⟩ (.bool true)) g 4 (tab2 n (ordF D k (midB D k i (h + 1))))) := by
                    have := pT.out.set P' (.bool true)
                    rw [HP'.out, ordF_set (by omega) hkn, ← HP'.out] at this
                    have e := ordF_congr (n := n) (k := k) (D := D) (f := midB D k i (h + 1)) (g := fun j => midB D k i h j || j == h) (fun j => by rw [midB_succ, hb]; simp)
                    unfold Hid
                    rw [e]
                    exact this
                  have bw3 : Below w.heap.size w (wr.setCell ⟨g, P', none⟩ (.bool true)) := bw.setCell hgw _
                  rw [hb] at qc
                  clear pT hb bw
                  go_wp2
                  go_roundw
                  case rel => exact ⟨h + 1, by omega, by go_num, pT3, bw3⟩
                  case measure => simp [intOf]; omega
              · obtain rfl : h = i := by omega
                have pT3 : Hid (Blk wr g 4 (tab2 n (ordF D k (colB D k h)))) := by
                  have e := ordF_congr (n := n) (k := k) (D := D) (f := colB D k h) (g := midB D k h h) (fun j => (midB_end hd (by omega) j).symm)
                  unfold Hid
                  rw [e]
                  exact pT.out
                clear pT hd
                go_wp2
                go_roundw
                case rel => exact ⟨h, by omega, by go_num, pT3, bw⟩
                case measure => simp [intOf] <;> omega
    · obtain rfl : k = n := by omega
      have pT2 : Blk wr g 4 (tab2 k (befB D)) := by
        have e : tab2 k (befB D) = tab2 k (ordF D k (fun _ => false)) := tab2_congr (fun i c _ hc => by unfold ordF; rw [if_pos hc])
        rw [e]
        exact pT.out
      clear pT
      go_wp2
      go_ret
      exact ⟨g, rfl, pT2, hgw, bw⟩
end Go.Proofs.YtmhngodbnoonhaaDoor

