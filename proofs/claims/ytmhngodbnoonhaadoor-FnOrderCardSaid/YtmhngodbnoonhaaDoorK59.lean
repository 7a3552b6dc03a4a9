/-
  Joined: AhdI.
-/
import Derived.Test.YtmhngodbnoonhaaDoorK31
import Derived.Test.YtmhngodbnoonhaaDoorK46

/-
  The program's aheadOver: a question about events by their numbers.
-/
namespace Go.Proofs.YtmhngodbnoonhaaDoor
open Go.RowKit
set_option linter.unusedVariables false
set_option linter.unusedSimpArgs false

/-- The answer of the clocks. -/
def ahdB (es : List I4) (i j : Nat) : Bool := decide (i ≠ j) && decide (clk (depE es) (thE es) i (thE es i) ≤ clk (depE es) (thE es) j (thE es i))
theorem ahdB_bef {es : List I4} (h : inThree es) (i j : Nat) : ahdB es i j = befB (depE es) i j := by
  refine bool_ext ?_
  rw [befB_iff]
  unfold ahdB
  rw [Bool.and_eq_true, decide_eq_true_iff, decide_eq_true_iff]
  exact ahead_iff (depE_thread h) i j
/-- What the question holds on to: the events and the clocks, each in a box. -/
def AhdAt (w : World) (gE gC : Nat) (es : List I4) (n : Nat) : Prop :=
  ∃ ea ec cg, Blk w gE 61 [.slice ea n ec] ∧ Blk w gC 117 [.slice (some ⟨cg, 0, none⟩) n n] ∧ Evs w ea n es ∧ Blk w cg 120 (tabC n (clk (depE es) (thE es)))
theorem AhdAt.below {w w' : World} {gE gC : Nat} {es : List I4} {n : Nat} (h : AhdAt w gE gC es n) (hb : Below w.heap.size w w') : AhdAt w' gE gC es n := by
  obtain ⟨ea, ec, cg, h1, h2, h3, h4⟩ := h
  exact ⟨ea, ec, cg, h1.below hb, h2.below hb, h3.below hb, h4.below hb⟩

set_option maxHeartbeats 1000000 in
set_option maxRecDepth 100000 in
theorem ahead_is {w : World} {gE gC : Nat} {es : List I4} {n : Nat} (h : AhdAt w gE gC es n) (hI : inThree es) {i j : Nat} (hi : i < n) (hj : j < n) :
    Calls Tryd.prog 108 #[.int .i64 i, .int .i64 j, .pointer (some ⟨gE, 0, none⟩), .pointer (some ⟨gC, 0, none⟩)] w fun e w' => e = .returned (.bool (ahdB es i j)) ∧ ∃ d, w' = w.drewN d := by
  obtain ⟨ea, ec, cg, pE, pC, hE, pK⟩ := h
  obtain ⟨ge, rfl, hgl, c0, _⟩ := ev_cells hE (Below.refl _ _) hi
  rw [← thE_int hI] at c0
  have ht3 := thE_three hI i
  have kE := pE.cell 0
  have kC := pC.cell 0
  simp only [List.getElem?_cons_zero] at kE kC
  have k1 := (pK.cell (i * 3 + thE es i)).trans (tabC_get _ hi ht3)
  have k2 := (pK.cell (j * 3 + thE es i)).trans (tabC_get _ hj ht3)
  obtain ⟨b9, hb9⟩ : ∃ b9, b9 = ahdB es i j := ⟨_, rfl⟩
  rw [← hb9]
  have HB : Hid (b9 = (decide (i ≠ j) && decide (clk (depE es) (thE es) i (thE es i) ≤ clk (depE es) (thE es) j (thE es i)))) := hb9
  clear hb9 pE pC pK hE
  generalize thE es i = t at *
  generalize clk (depE es) (thE es) i t = q1 at *
  generalize clk (depE es) (thE es) j t = q2 at *
  have h1 : (i : Int) < (n : Int) := by omega
  have h2 : (j : Int) < (n : Int) := by omega
  have h3 : (0 : Int) ≤ (i : Int) := by omega
  have h4 : (0 : Int) ≤ (j : Int) := by omega
  have h5 : (t : Int) < 3 := by omega
  have h6 : (0 : Int) ≤ (t : Int) := by omega
  by_cases hij : i = j
  · subst hij
    have hne : ((i : Int) != (i : Int)) = false := by simp
    have HB2 : Hid (b9 = false) := by rw [Hid, HB.out]; simp
    clear HB
    go_enter Tryd.func108, Tryd.ntmps108
    go_wp2
    go_quiet (fail)
    go_wp2
    go_ret
    exact ⟨by rw [HB2.out]; rfl, _, rfl⟩
  · have hne : ((i : Int) != (j : Int)) = true := by simp; omega
    by_cases hle : q1 ≤ q2
    · have hle' : (q1 : Int) ≤ (q2 : Int) := by omega
      have HB2 : Hid (b9 = true) := by rw [Hid, HB.out]; simp [hij, hle]
      clear HB hij hle
      go_enter Tryd.func108, Tryd.ntmps108
      go_wp2
      go_quiet (fail)
      go_wp2
      go_ret
      exact ⟨by rw [HB2.out]; rfl, _, rfl⟩
    · have hle' : ¬ (q1 : Int) ≤ (q2 : Int) := by omega
      have HB2 : Hid (b9 = decide (q1 ≤ q2)) := by rw [Hid, HB.out]; simp [hij]
      clear HB hij hle
      go_enter Tryd.func108, Tryd.ntmps108
      go_wp2
      go_quiet (fail)
      go_wp2
      go_ret
      exact ⟨by rw [HB2.out]; rfl, _, rfl⟩

/-- The question that was made. -/
def AhdGot (e : Ending) (w w' : World) (es : List I4) (n : Nat) : Prop := ∃ gE gC, e = .returned (.func (.func 108) #[] #[.pointer (some ⟨gE, 0, none⟩), .pointer (some ⟨gC, 0, none⟩)]) ∧ AhdAt w' gE gC es n ∧ Below w.heap.size w w'
set_option maxHeartbeats 1000000 in
set_option maxRecDepth 100000 in
theorem aheadOver_is (a : Option Addr) (n c : Nat) (es : List I4) (w : World) (h : Evs w a n es) (hn : n ≤ 4096) (hnc : n ≤ c) (hI : inThree es) :
    Calls Tryd.prog 65 #[.slice a n c] w fun e w' => AhdGot e w w' es n := by
  have ha : Below w.heap.size w (w.alloc (.cells #[.slice a n c] 61)) := by go_grown
  have pE := Blk.new w 61 [.slice a n c]
  have kC := clocksOf_is a n c es _ (h.below ha) hn hnc hI
  unfold AhdGot
  have hE := h.below ha
  go_enter Tryd.func65, Tryd.ntmps65
  go_wp2_with fail
  generalize (w.alloc (.cells #[.slice a n c] 61)) = U at *
  obtain ⟨gE, hgE⟩ : ∃ gE, gE = w.heap.size := ⟨_, rfl⟩
  have HG : Hid (gE = w.heap.size) := hgE
  rw [← hgE] at pE ⊢
  clear hgE
  refine kC.mono ?_
  rintro e w2 ⟨cg, rfl, pK, hcg, hb⟩
  have ha2 : Below w2.heap.size w2 (w2.alloc (.cells #[.slice (some ⟨cg, 0, none⟩) n n] 117)) := by go_grown
  have pC := Blk.new w2 117 [.slice (some ⟨cg, 0, none⟩) n n]
  have st : AhdAt (w2.alloc (.cells #[.slice (some ⟨cg, 0, none⟩) n n] 117)) gE w2.heap.size es n := ⟨a, c, cg, (pE.below hb).below ha2, pC, (hE.below hb).below ha2, pK.below ha2⟩
  have bz : Below w.heap.size w (w2.alloc (.cells #[.slice (some ⟨cg, 0, none⟩) n n] 117)) := bel_trans (bel_trans ha hb) ha2
  clear kC pK hb ha2 pC pE hE ha
  go_wp2
  go_ret
  exact ⟨gE, w2.heap.size, rfl, st, bz⟩
end Go.Proofs.YtmhngodbnoonhaaDoor
