/-
  Joined: EvF, CmtQ, NorI, AhdI.
-/
import Derived.Test.YtmhngodbnoonhaaDoorProg
import Derived.Deep.RegionHeld3
import Derived.KernelRfl
import Derived.Tactics
import Derived.WalkKit
import Derived.WalkSpells
import Derived.WalkLawsBesides
import Derived.RegionTactic
import Derived.BigQuiet
import Derived.Deep.QuietTactic
import Derived.Deep.Slices
import Derived.Deep.Strs
import Derived.Deep.Fields
import Derived.ChangeSame
import Derived.Handy
import Derived.OwnWalk
import Derived.ChangeSlices
import Derived.Lib.SmallJoins
import Derived.Shelf.Abstract
import Derived.Laws.BytesArg
import Derived.Deep.RegionLaw
import Derived.Laws.OwnMore
import Derived.Laws.CopyOwn
import Derived.Laws.Tables
import Derived.BigRegion
import Derived.Maps.AppendAt
import Derived.Stop.Asserts
import Derived.Recover
import Derived.Laws.RangeString
import Derived.Laws.RangeAny
import Derived.Laws.Bits
import Derived.Lib.FieldsP
import Derived.Shelf.SlSortCmp.NoneTotal
import Derived.Shelf.Spec.SlicesGrow
import Derived.Laws.AppendOwnNone
import Derived.Lib.SliceRun
import Derived.Deep.MidRow
import Derived.IntWalk
import Derived.Test.YtmhngodbnoonhaaDoorK01
import Derived.Test.YtmhngodbnoonhaaDoorK02
import Derived.Test.YtmhngodbnoonhaaDoorK04
import Derived.Test.YtmhngodbnoonhaaDoorK06
import Derived.Test.YtmhngodbnoonhaaDoorK07
import Derived.Test.YtmhngodbnoonhaaDoorK08
import Derived.Test.YtmhngodbnoonhaaDoorK09
import Derived.Test.YtmhngodbnoonhaaDoorK11
import Derived.Test.YtmhngodbnoonhaaDoorK12
import Derived.Test.YtmhngodbnoonhaaDoorK16
import Derived.Test.YtmhngodbnoonhaaDoorK22
import Derived.Test.YtmhngodbnoonhaaDoorK23
import Derived.Test.YtmhngodbnoonhaaDoorK24
import Derived.Test.YtmhngodbnoonhaaDoorK25
import Derived.Test.YtmhngodbnoonhaaDoorK26
import Derived.Test.YtmhngodbnoonhaaDoorK28
import Derived.Test.YtmhngodbnoonhaaDoorK32
import Derived.Test.YtmhngodbnoonhaaDoorK39
import Derived.Test.YtmhngodbnoonhaaDoorK40
import Derived.Test.YtmhngodbnoonhaaDoorK41
import Derived.Test.YtmhngodbnoonhaaDoorK42
import Derived.Test.YtmhngodbnoonhaaDoorK43

/-
  Both sides' EventsOf.
-/
namespace Go.Proofs.YtmhngodbnoonhaaDoor
open Go.RowKit
set_option linter.unusedVariables false
set_option linter.unusedSimpArgs false

set_option maxHeartbeats 800000 in
set_option maxRecDepth 100000 in
theorem implEventsOf_is (a : Option Addr) (len cap : Nat) (rows : List (List I3)) (la : Option Addr) (n c : Nat) (ks : List Int) (w : World) (hC : Codes w a len cap rows) (hV : VmShape w) (hL : Ints .i64 w la n c ks) :
    Calls Tryd.prog 33 #[.agg #[.slice a len cap], .slice la n c] w fun e w' => EvGot e w' w.heap.size (evE rows ks) (evK rows ks) ∧ Below w.heap.size w w' := by
  unfold evE evK
  rw [hL.1]
  have bw : Below w.heap.size w (w.alloc (.cells #[.slice a len cap] 25)) := by go_grown
  have pP : Blk (w.alloc (.cells #[.slice a len cap] 25)) w.heap.size 25 [.slice a len cap] := blkAt _ _ _ rfl
  by_cases hn : 4096 < n
  · have hn' : (4096 : Int) < (n : Int) := by omega
    simp only [if_pos hn]
    clear hC hL hn pP hV
    go_enter Tryd.func33, Tryd.ntmps33
    go_wp2
    go_ret2
    exact ⟨⟨_, rfl, World.ownsRow_nil _ _ _ _⟩, bw⟩
  simp only [if_neg hn]
  have hn' : ¬ (4096 : Int) < (n : Int) := by omega
  cases hp : progOk rows
  · have kN := fun W (b : Below w.heap.size w W) => newReplay_bad (hC.below b) (hV.below b) hp
    simp only [Bool.false_eq_true, if_false]
    clear hp hC hL hn hV
    go_enter Tryd.func33, Tryd.ntmps33
    go_wp2_with fail
    generalize (w.alloc (.cells #[.slice a len cap] 25)) = U at *
    go_wp2_with (first | refine wpList_load_blk rfl 25 _ rfl w.heap.size rfl pP _ Tryd.underlying25 rfl (by kernel_rfl) ?_)
    refine (kN _ bw).mono ?_
    rintro e w1 ⟨rfl, hb⟩
    replace bw := bel_trans bw hb
    have pN := Blk.new w1 88 [.slice none 0 0, .int .i64 0, .int .i64 0, .int .i64 0, .slice none 0 0, .int .i64 0, .int .i64 0, .int .i64 0, .slice none 0 0, .int .i64 0, .int .i64 0, .int .i64 0, .int .i64 0, .int .i64 0, .int .i64 0, .int .i64 0, .int .i64 0, .int .i64 0, .slice none 0 0]
    have ha : Below w1.heap.size w1 (w1.alloc (.cells #[.slice none 0 0, .int .i64 0, .int .i64 0, .int .i64 0, .slice none 0 0, .int .i64 0, .int .i64 0, .int .i64 0, .slice none 0 0, .int .i64 0, .int .i64 0, .int .i64 0, .int .i64 0, .int .i64 0, .int .i64 0, .int .i64 0, .int .i64 0, .int .i64 0, .slice none 0 0] 88)) := by go_grown
    have hgw : w.heap.size ≤ w1.heap.size := bw.size
    clear kN hb pP
    go_wp2_with (refine wpList_store_blk rfl 88 _ _ rfl w1.heap.size [.slice none 0 0, .int .i64 0, .int .i64 0, .int .i64 0, .slice none 0 0, .int .i64 0, .int .i64 0, .int .i64 0, .slice none 0 0, .int .i64 0, .int .i64 0, .int .i64 0, .int .i64 0, .int .i64 0, .int .i64 0, .int .i64 0, .int .i64 0, .int .i64 0, .slice none 0 0] rfl rfl pN (by kernel_rfl) rfl rfl ?_)
    intro W9 pM g1
    replace bw := (bel_trans bw ha).grown g1 (by simp; omega) (fun x hx => by cases hx; omega)
    clear g1 ha pN pM
    generalize w1.heap.size = g at *
    go_wp2
    go_ret2
    exact ⟨⟨_, rfl, World.ownsRow_nil _ _ _ _⟩, bw⟩
  · simp only [if_true]
    obtain ⟨rfl, cs, hR⟩ := hC.rowsAt hp
    exact implEventsOf_ok a cap rows la n c ks w hC hV hp hL hn

set_option maxHeartbeats 800000 in
set_option maxRecDepth 100000 in
theorem l05Ask_is (a : Option Addr) (len cap : Nat) (rows : List (List I3)) (la : Option Addr) (n c : Nat) (w : World) (hC : Codes w a len cap rows) (hn : ¬ 4096 < n) :
    Calls Tryd.prog 66 #[.agg #[.slice a len cap], .slice la n c] w fun e w' => e = .returned (.int .i64 (if progOk rows then 0 else 1)) ∧ Below w.heap.size w w' := by
  have bw : Below w.heap.size w (w.alloc (.cells #[.slice a len cap] 25)) := by go_grown
  have pP : Blk (w.alloc (.cells #[.slice a len cap] 25)) w.heap.size 25 [.slice a len cap] := blkAt _ _ _ rfl
  have hn' : ¬ (4096 : Int) < (n : Int) := by omega
  have kP := fun W (b : Below w.heap.size w W) => specProgramOK_is a len cap rows W (hC.below b)
  cases hp : progOk rows
  · rw [hp] at kP
    clear hC hn hp
    go_enter Tryd.func66, Tryd.ntmps66
    go_wp2_with fail
    generalize (w.alloc (.cells #[.slice a len cap] 25)) = U at *
    go_wp2_with (first | refine wpList_load_blk rfl 25 _ rfl w.heap.size rfl pP _ Tryd.underlying25 rfl (by kernel_rfl) ?_)
    refine (kP _ bw).mono ?_
    rintro e w1 ⟨rfl, hb⟩
    replace bw := bel_trans bw hb
    clear hb kP pP
    go_wp2
    go_ret
    exact ⟨rfl, bw⟩
  · rw [hp] at kP
    clear hC hn hp
    go_enter Tryd.func66, Tryd.ntmps66
    go_wp2_with fail
    generalize (w.alloc (.cells #[.slice a len cap] 25)) = U at *
    go_wp2_with (first | refine wpList_load_blk rfl 25 _ rfl w.heap.size rfl pP _ Tryd.underlying25 rfl (by kernel_rfl) ?_)
    refine (kP _ bw).mono ?_
    rintro e w1 ⟨rfl, hb⟩
    replace bw := bel_trans bw hb
    clear hb kP pP
    go_wp2
    go_ret
    exact ⟨rfl, bw⟩

end Go.Proofs.YtmhngodbnoonhaaDoor


/-
  Neighbours of a schedule that do not depend on one another change places: the same state, the same events.
-/
namespace Go.Proofs.YtmhngodbnoonhaaDoor
open Go.RowKit
set_option linter.unusedVariables false
set_option linter.unusedSimpArgs false

theorem runI_cons {rows : List (List I3)} {m : V4} {fs : List I3} {k : Int} {ks : List Int} (h : (runI rows m fs (k :: ks)).2.2 = 0) : haltM rows m k = 0 ∧ runI rows m fs (k :: ks) = runI rows (goM rows m k).1 (fs ++ ownM rows m k) ks := by
  have e : runI rows m fs (k :: ks) = if haltM rows m k = 0 then runI rows (goM rows m k).1 (fs ++ ownM rows m k) ks else (m, fs, haltM rows m k) := rfl
  by_cases hz : haltM rows m k = 0
  · rw [if_pos hz] at e
    exact ⟨hz, e⟩
  · rw [e, if_neg hz] at h
    exact absurd h hz
theorem evsM_len (rows : List (List I3)) : ∀ (ks : List Int) (m : V4), (evsM rows m ks).length = ks.length
  | [], m => rfl
  | k :: ks, m => by show (evsM rows (goM rows m k).1 ks).length + 1 = ks.length + 1; rw [evsM_len rows ks]
end Go.Proofs.YtmhngodbnoonhaaDoor


/-
  The program's NormalOf.
-/
namespace Go.Proofs.YtmhngodbnoonhaaDoor
open Go.RowKit
set_option linter.unusedVariables false
set_option linter.unusedSimpArgs false

theorem evsM_three {rows : List (List I3)} : ∀ (ks : List Int) (m : V4) (fs : List I3), (runI rows m fs ks).2.2 = 0 → inThree (evsM rows m ks)
  | [], _, _, _ => fun x hx => by simp [evsM] at hx
  | k :: ks, m, fs, h => by
    obtain ⟨hz, he⟩ := runI_cons h
    rw [he] at h
    have ih := evsM_three ks _ _ h
    obtain ⟨h0, h2, _⟩ := halt_can hz
    intro x hx
    simp only [evsM, List.mem_cons] at hx
    rcases hx with rfl | hx
    · show 0 ≤ (eventM rows m k.toNat).1 ∧ (eventM rows m k.toNat).1 < 3
      unfold eventM
      simp only
      omega
    · exact ih x hx
theorem evE_three (rows : List (List I3)) (ks : List Int) : inThree (evE rows ks) := by
  unfold evE
  split
  · intro x hx; simp at hx
  · split
    · split
      · rename_i h; exact evsM_three ks _ _ h
      · intro x hx; simp at hx
    · intro x hx; simp at hx
theorem evE_len9 (rows : List (List I3)) (ks : List Int) : (evE rows ks).length ≤ 4096 := by
  unfold evE
  split
  · simp
  · split
    · split
      · rw [evsM_len]; omega
      · simp
    · simp
theorem evE_nil {rows : List (List I3)} {ks : List Int} (h : evK rows ks ≠ 0) : evE rows ks = [] := by
  unfold evK at h
  unfold evE
  split at h
  · rename_i h1; rw [if_pos h1]
  · rename_i h1
    rw [if_neg h1]
    split at h
    · rename_i h2; rw [if_pos h2, if_neg h]
    · rename_i h2; rw [if_neg h2]
end Go.Proofs.YtmhngodbnoonhaaDoor


/-
  The program's aheadOver: a question about events by their numbers.
-/
namespace Go.Proofs.YtmhngodbnoonhaaDoor
open Go.RowKit
set_option linter.unusedVariables false
set_option linter.unusedSimpArgs false

def ahdB (es : List I4) (i j : Nat) : Bool := decide (i ≠ j) && decide (clk (depE es) (thE es) i (thE es i) ≤ clk (depE es) (thE es) j (thE es i))
theorem ahdB_bef {es : List I4} (h : inThree es) (i j : Nat) : ahdB es i j = befB (depE es) i j := by
  refine bool_ext ?_
  rw [befB_iff]
  unfold ahdB
  rw [Bool.and_eq_true, decide_eq_true_iff, decide_eq_true_iff]
  exact ahead_iff (depE_thread h) i j
def AhdAt (w : World) (gE gC : Nat) (es : List I4) (n : Nat) : Prop :=
  ∃ ea ec cg, Blk w gE 61 [.slice ea n ec] ∧ Blk w gC 117 [.slice (some ⟨cg, 0, none⟩) n n] ∧ Evs w ea n es ∧ Blk w cg 120 (tabC n (clk (depE es) (thE es)))
theorem AhdAt.below {w w' : World} {gE gC : Nat} {es : List I4} {n : Nat} (h : AhdAt w gE gC es n) (hb : Below w.heap.size w w') : AhdAt w' gE gC es n := by
  obtain ⟨ea, ec, cg, h1, h2, h3, h4⟩ := h
  exact ⟨ea, ec, cg, h1.below hb, h2.below hb, h3.below hb, h4.below hb⟩

set_option maxHeartbeats 1000000 in
set_option maxRecDepth 100000 in
theorem ahead_is {w : World} {gE gC : Nat} {es : List I4} {n : Nat} (h : AhdAt w gE gC es n) (hI : inThree es) {i j : Nat} (hi : i < n) (hj : j < n) :
    Calls Tryd.prog 108 #[.int .i64 i, .int .i64 j, .pointer (some ⟨gE, 0, none⟩), .pointer (some ⟨gC, 0, none⟩)] w fun e w' => e = .returned (.bool (ahdB es i j)) ∧ ∃ d, w' = w.drewN d := by
  obtain ⟨ea, ec, cg, pE, pC, hE, pK⟩ := h
  obtain ⟨ge, rfl, hgl, c0, _⟩ := ev_cells hE (Below.refl _ _) hi
  rw [← thE_int hI] at c0
  have ht3 := thE_three hI i
  have kE := pE.cell 0
  have kC := pC.cell 0
  simp only [List.getElem?_cons_zero] at kE kC
  have k1 := (pK.cell (i * 3 + thE es i)).trans (tabC_get _ hi ht3)
  have k2 := (pK.cell (j * 3 + thE es i)).trans (tabC_get _ hj ht3)
  obtain ⟨b9, hb9⟩ : ∃ b9, b9 = ahdB es i j := ⟨_, rfl⟩
  rw [← hb9]
  have HB : Hid (b9 = (decide (i ≠ j) && decide (clk (depE es) (thE es) i (thE es i) ≤ clk (depE es) (thE es) j (thE es i)))) := hb9
  clear hb9 pE pC pK hE
  generalize thE es i = t at *
  generalize clk (depE es) (thE es) i t = q1 at *
  generalize clk (depE es) (thE es) j t = q2 at *
  have h1 : (i : Int) < (n : Int) := by omega
  have h2 : (j : Int) < (n : Int) := by omega
  have h3 : (0 : Int) ≤ (i : Int) := by omega
  have h4 : (0 : Int) ≤ (j : Int) := by omega
  have h5 : (t : Int) < 3 := by omega
  have h6 : (0 : Int) ≤ (t : Int) := by omega
  by_cases hij : i = j
  · subst hij
    have hne : ((i : Int) != (i : Int)) = false := by simp
    have HB2 : Hid (b9 = false) := by rw [Hid, HB.out]; simp
    clear HB
    go_enter Tryd.func108, Tryd.ntmps108
    go_wp2
    go_quiet (fail)
    go_wp2
    go_ret
    exact ⟨by rw [HB2.out]; rfl, _, rfl⟩
  · have hne : ((i : Int) != (j : Int)) = true := by simp; omega
    by_cases hle : q1 ≤ q2
    · have hle' : (q1 : Int) ≤ (q2 : Int) := by omega
      have HB2 : Hid (b9 = true) := by rw [Hid, HB.out]; simp [hij, hle]
      clear HB hij hle
      go_enter Tryd.func108, Tryd.ntmps108
      go_wp2
      go_quiet (fail)
      go_wp2
      go_ret
      exact ⟨by rw [HB2.out]; rfl, _, rfl⟩
    · have hle' : ¬ (q1 : Int) ≤ (q2 : Int) := by omega
      have HB2 : Hid (b9 = decide (q1 ≤ q2)) := by rw [Hid, HB.out]; simp [hij]
      clear HB hij hle
      go_enter Tryd.func108, Tryd.ntmps108
      go_wp2
      go_quiet (fail)
      go_wp2
      go_ret
      exact ⟨by rw [HB2.out]; rfl, _, rfl⟩

def AhdGot (e : Ending) (w w' : World) (es : List I4) (n : Nat) : Prop := ∃ gE gC, e = .returned (.func (.func 108) #[] #[.pointer (some ⟨gE, 0, none⟩), .pointer (some ⟨gC, 0, none⟩)]) ∧ AhdAt w' gE gC es n ∧ Below w.heap.size w w'
set_option maxHeartbeats 1000000 in
set_option maxRecDepth 100000 in
theorem aheadOver_is (a : Option Addr) (n c : Nat) (es : List I4) (w : World) (h : Evs w a n es) (hn : n ≤ 4096) (hnc : n ≤ c) (hI : inThree es) :
    Calls Tryd.prog 65 #[.slice a n c] w fun e w' => AhdGot e w w' es n := by
  have ha : Below w.heap.size w (w.alloc (.cells #[.slice a n c] 61)) := by go_grown
  have pE := Blk.new w 61 [.slice a n c]
  have kC := clocksOf_is a n c es _ (h.below ha) hn hnc hI
  unfold AhdGot
  have hE := h.below ha
  go_enter Tryd.func65, Tryd.ntmps65
  go_wp2_with fail
  generalize (w.alloc (.cells #[.slice a n c] 61)) = U at *
  obtain ⟨gE, hgE⟩ : ∃ gE, gE = w.heap.size := ⟨_, rfl⟩
  have HG : Hid (gE = w.heap.size) := hgE
  rw [← hgE] at pE ⊢
  clear hgE
  refine kC.mono ?_
  rintro e w2 ⟨cg, rfl, pK, hcg, hb⟩
  have ha2 : Below w2.heap.size w2 (w2.alloc (.cells #[.slice (some ⟨cg, 0, none⟩) n n] 117)) := by go_grown
  have pC := Blk.new w2 117 [.slice (some ⟨cg, 0, none⟩) n n]
  have st : AhdAt (w2.alloc (.cells #[.slice (some ⟨cg, 0, none⟩) n n] 117)) gE w2.heap.size es n := ⟨a, c, cg, (pE.below hb).below ha2, pC, (hE.below hb).below ha2, pK.below ha2⟩
  have bz : Below w.heap.size w (w2.alloc (.cells #[.slice (some ⟨cg, 0, none⟩) n n] 117)) := bel_trans (bel_trans ha hb) ha2
  clear kC pK hb ha2 pC pE hE ha
  go_wp2
  go_ret
  exact ⟨gE, w2.heap.size, rfl, st, bz⟩
end Go.Proofs.YtmhngodbnoonhaaDoor

