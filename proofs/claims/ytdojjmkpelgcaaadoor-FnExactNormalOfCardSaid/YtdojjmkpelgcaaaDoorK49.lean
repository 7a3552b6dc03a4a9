/-
  Joined: ScI.
-/
import Derived.Test.YtdojjmkpelgcaaaDoorProg
import Derived.Deep.RegionHeld3
import Derived.KernelRfl
import Derived.Tactics
import Derived.WalkKit
import Derived.WalkSpells
import Derived.WalkLawsBesides
import Derived.RegionTactic
import Derived.BigQuiet
import Derived.Deep.QuietTactic
import Derived.Deep.Slices
import Derived.Deep.Strs
import Derived.Deep.Fields
import Derived.ChangeSame
import Derived.Handy
import Derived.OwnWalk
import Derived.ChangeSlices
import Derived.Lib.SmallJoins
import Derived.Shelf.Abstract
import Derived.Laws.BytesArg
import Derived.Deep.RegionLaw
import Derived.Laws.OwnMore
import Derived.Laws.CopyOwn
import Derived.Laws.Tables
import Derived.BigRegion
import Derived.Maps.AppendAt
import Derived.Stop.Asserts
import Derived.Recover
import Derived.IntWalk
import Derived.Deep.MidRow
import Derived.Laws.RangeString
import Derived.Laws.RangeAny
import Derived.Laws.Bits
import Derived.Lib.FieldsP
import Derived.Shelf.SlSortCmp.NoneTotal
import Derived.Shelf.Spec.SlicesGrow
import Derived.Laws.AppendOwnNone
import Derived.Lib.SliceRun
import Derived.Test.YtdojjmkpelgcaaaDoorK01
import Derived.Test.YtdojjmkpelgcaaaDoorK02
import Derived.Test.YtdojjmkpelgcaaaDoorK04
import Derived.Test.YtdojjmkpelgcaaaDoorK08
import Derived.Test.YtdojjmkpelgcaaaDoorK09
import Derived.Test.YtdojjmkpelgcaaaDoorK11
import Derived.Test.YtdojjmkpelgcaaaDoorK12
import Derived.Test.YtdojjmkpelgcaaaDoorK14
import Derived.Test.YtdojjmkpelgcaaaDoorK16
import Derived.Test.YtdojjmkpelgcaaaDoorK18
import Derived.Test.YtdojjmkpelgcaaaDoorK21
import Derived.Test.YtdojjmkpelgcaaaDoorK23
import Derived.Test.YtdojjmkpelgcaaaDoorK25
import Derived.Test.YtdojjmkpelgcaaaDoorK27
import Derived.Test.YtdojjmkpelgcaaaDoorK31
import Derived.Test.YtdojjmkpelgcaaaDoorK32
import Derived.Test.YtdojjmkpelgcaaaDoorK43
import Derived.Test.YtdojjmkpelgcaaaDoorK46
import Derived.Test.YtdojjmkpelgcaaaDoorK47
import Derived.Test.YtdojjmkpelgcaaaDoorK48

/-
  Slices of numbers that are equal; the specification's NormalOf; the program's SameClass.
-/
namespace Go.Proofs.YtdojjmkpelgcaaaDoor
open Go.RowKit
set_option linter.unusedVariables false
set_option linter.unusedSimpArgs false

set_option maxHeartbeats 1000000 in
set_option maxRecDepth 100000 in
theorem slEqual_is (a : Option Addr) (n c : Nat) (xs : List Int) (a' : Option Addr) (n' c' : Nat) (ys : List Int) (w : World) (h : Ints .i64 w a n c xs) (h' : Ints .i64 w a' n' c' ys) :
    Calls Tryd.prog 60 #[.slice a n c, .slice a' n' c'] w fun e w' => e = .returned (.bool (decide (xs = ys))) ∧ ∃ d, w' = w.drewN d := by
  obtain ⟨dd, hdd⟩ : ∃ dd, dd = decide (xs = ys) := ⟨_, rfl⟩
  rw [← hdd]
  have HD : Hid (dd = decide (xs = ys)) := hdd
  clear hdd
  obtain ⟨hl, hlc, hcm, hcase⟩ := h
  obtain ⟨hl', hlc', hcm', hcase'⟩ := h'
  unfold maxLen at hcm hcm'
  by_cases hnn : n = n'
  case neg =>
    have hne : ((n : Int) != (n' : Int)) = true := by simp; omega
    have HF : Hid (dd = false) := by
      rw [Hid, HD.out, decide_eq_false_iff_not]
      intro e
      rw [e, hl'] at hl
      exact hnn hl.symm
    clear hcase hcase'
    go_enter Tryd.func60, Tryd.ntmps60
    go_wp2
    go_ret
    exact ⟨by rw [HF.out]; rfl, 0, rfl⟩
  subst hnn
  have hne : ((n : Int) != (n : Int)) = false := by simp
  by_cases h0 : n = 0
  · subst h0
    have HT : Hid (dd = true) := by
      rw [Hid, HD.out, decide_eq_true_iff, List.length_eq_zero_iff.1 hl, List.length_eq_zero_iff.1 hl']
    clear hcase hcase' hl hl'
    go_enter Tryd.func60, Tryd.ntmps60
    go_wp2
    refine wp_loop_rounds 1 ?_
    rw [rounds_succ]
    go_wp2
    go_ret
    exact ⟨by rw [HT.out]; rfl, 0, rfl⟩
  · rcases hcase with h0' | ⟨b, off, rfl, hblt, hcell⟩
    · exact absurd h0' h0
    rcases hcase' with h0' | ⟨b', off', rfl, hblt', hcell'⟩
    · exact absurd h0' h0
    have HL : Hid (xs.length = n ∧ ys.length = n) := ⟨hl, hl'⟩
    clear hl hl'
    go_enter Tryd.func60, Tryd.ntmps60
    go_wp2
    go_loopw [13] (fun si wr => ∃ k d : Nat, k ≤ n ∧ si = .int .i64 k ∧ Hid (∀ i, i < k → xs.getD i 0 = ys.getD i 0) ∧ wr = w.drewN d) (fun si _ => n - (intOf si).toNat)
    case atStart => exact ⟨0, 0, by omega, rfl, fun i hi => by omega, rfl⟩
    case round =>
      obtain ⟨k, d, hk, rfl, hH, rfl⟩ := hrel
      by_cases hlt : k < n
      · have hc := hcell k hlt
        have hc' := hcell' k hlt
        have hlt' : (k : Int) < (n : Int) := by omega
        clear hcell hcell'
        by_cases hx : xs.getD k 0 = ys.getD k 0
        · have hH2 : Hid (∀ i, i < k + 1 → xs.getD i 0 = ys.getD i 0) := fun i hi => by
            by_cases e : i = k
            · subst e; exact hx
            · exact hH.out i (by omega)
          rw [← hx] at hc'
          clear hx hH
          generalize xs.getD k 0 = x at hc hc'
          have hxx : (x != x) = false := by simp
          go_wp2
          go_quiet (fail)
          go_wp2
          go_roundw
          case rel => exact ⟨k + 1, _, by omega, by go_num, hH2, rfl⟩
          case measure => simp [intOf]; omega
        · have HF : Hid (dd = false) := by
            rw [Hid, HD.out, decide_eq_false_iff_not]
            intro e
            rw [e] at hx
            exact hx rfl
          have hxx : (xs.getD k 0 != ys.getD k 0) = true := by simpa using hx
          clear hx hH
          generalize xs.getD k 0 = x at hc hxx
          generalize ys.getD k 0 = y at hc' hxx
          go_wp2
          go_quiet (fail)
          go_wp2
          go_ret
          exact ⟨by rw [HF.out]; rfl, d + nq, by simp [World.drewN]; omega⟩
      · have HT : Hid (dd = true) := by
          rw [Hid, HD.out, decide_eq_true_iff]
          have hL := HL.out
          exact ext_getDL (by omega) (fun i hi => hH.out i (by omega))
        clear hcell hcell' hH
        go_wp2
        go_ret
        exact ⟨by rw [HT.out]; rfl, d, rfl⟩

set_option maxHeartbeats 1000000 in
set_option maxRecDepth 100000 in
theorem specNormalOf_is (a : Option Addr) (len cap : Nat) (rows : List (List I3)) (la : Option Addr) (n c : Nat) (ks : List Int) (w : World) (hC : Codes w a len cap rows) (hL : Ints .i64 w la n c ks) :
    Calls Tryd.prog 17 #[.agg #[.slice a len cap], .slice la n c] w fun e w' => LGot e w' w.heap.size (nrmE (evE rows ks)) (evK rows ks) ∧ Below w.heap.size w w' := by
  have hI := evE_three rows ks
  have hE := evE_len9 rows ks
  have HN : Hid (evK rows ks ≠ 0 → nrmE (evE rows ks) = []) := fun h => by rw [evE_nil h]; rfl
  have bw : Below w.heap.size w (w.alloc (.cells #[.slice a len cap] 25)) := by go_grown
  have pP : Blk (w.alloc (.cells #[.slice a len cap] 25)) w.heap.size 25 [.slice a len cap] := blkAt _ _ _ rfl
  by_cases hn : 4096 < n
  · have hn' : (4096 : Int) < (n : Int) := by omega
    have e1 : evK rows ks = 2 := by unfold evK; rw [hL.1, if_pos hn]
    rw [HN.out (by rw [e1]; decide), e1]
    clear hC hL hn pP HN hI hE e1
    go_enter Tryd.func17, Tryd.ntmps17
    go_wp2
    go_ret2
    exact ⟨⟨_, rfl, by simpa using own_emptyB (w.alloc (.cells #[.slice a len cap] 25)) 3 1 w.heap.size (by simp)⟩, bel_trans bw (by go_grown)⟩
  have hn' : ¬ (4096 : Int) < (n : Int) := by omega
  have kA := fun W (b : Below w.heap.size w W) => l05Ask_is a len cap rows la n c W (hC.below b) hn
  cases hp : progOk rows
  · have e1 : evK rows ks = 1 := by unfold evK; rw [hL.1, if_neg hn, hp]; rfl
    rw [HN.out (by rw [e1]; decide), e1]
    rw [hp] at kA
    simp only [Bool.false_eq_true, if_false] at kA
    clear hp hC hL hn HN hI hE e1
    go_enter Tryd.func17, Tryd.ntmps17
    go_wp2_with fail
    generalize (w.alloc (.cells #[.slice a len cap] 25)) = U at *
    go_wp2_with (first | refine wpList_load_blk rfl 25 _ rfl w.heap.size rfl pP _ Tryd.underlying25 rfl (by kernel_rfl) ?_)
    refine (kA _ bw).mono ?_
    rintro e w1 ⟨rfl, hb⟩
    replace bw := bel_trans bw hb
    have q := own_emptyB w1 3 1 w.heap.size bw.size
    have bz := bel_trans bw (by go_grown : Below w1.heap.size w1 (w1.alloc (.cells #[] 3)))
    clear hb kA pP bw
    go_wp2
    go_ret2
    exact ⟨⟨_, rfl, q⟩, bz⟩
  · rw [hp] at kA
    simp only [if_true] at kA
    obtain ⟨rfl, cs, hR⟩ := hC.rowsAt hp
    have kE := fun W (b : Below w.heap.size w W) => l05Events_is (cap := cap) (hR.below b) hp (hL.below b) (by omega)
    have e1 : (if (runI rows zeroV [] ks).2.2 = 0 then evsM rows zeroV ks else []) = evE rows ks := by unfold evE; rw [hL.1, if_neg hn, hp]; rfl
    have e2 : (runI rows zeroV [] ks).2.2 = evK rows ks := by unfold evK; rw [hL.1, if_neg hn, hp]; rfl
    rw [e1, e2] at kE
    clear e1 e2
    generalize evE rows ks = es at *
    generalize evK rows ks = cd at *
    clear hp hC hL hn hR
    go_enter Tryd.func17, Tryd.ntmps17
    go_wp2_with fail
    generalize (w.alloc (.cells #[.slice a 3 cap] 25)) = U at *
    go_wp2_with (first | refine wpList_load_blk rfl 25 _ rfl w.heap.size rfl pP _ Tryd.underlying25 rfl (by kernel_rfl) ?_)
    refine (kA _ bw).mono ?_
    rintro e w1 ⟨rfl, hb⟩
    replace bw := bel_trans bw hb
    replace pP := pP.below hb
    clear hb kA
    go_wp2_with (first | refine wpList_load_blk rfl 25 _ rfl w.heap.size rfl pP _ Tryd.underlying25 rfl (by kernel_rfl) ?_)
    refine (kE _ bw).mono ?_
    rintro e w2 ⟨⟨v, rfl, q⟩, hb⟩
    replace bw := bel_trans bw hb
    clear hb kE pP
    by_cases hcd : cd = 0
    · subst hcd
      obtain ⟨ea, ec, rfl, hEv⟩ := evs_slice q
      have kN := l05Normal_is ea es.length ec es w2 hEv hE hI
      obtain ⟨n9, hn9⟩ : ∃ n9, n9 = es.length := ⟨_, rfl⟩
      rw [← hn9] at kN ⊢
      clear q hEv hn9 HN
      go_wp2_with fail
      refine kN.mono ?_
      rintro e w3 ⟨⟨v3, rfl, q3⟩, hb⟩
      replace q3 := own_lowerB (B' := w.heap.size) q3 bw.size
      replace bw := bel_trans bw hb
      clear hb kN
      go_wp2
      go_ret2
      exact ⟨⟨_, rfl, q3⟩, bw⟩
    · have hne : (cd != 0) = true := by simp [hcd]
      have HE : Hid (nrmE es = []) := HN.out hcd
      have q9 := own_emptyB w2 3 1 w.heap.size bw.size
      have bz := bel_trans bw (by go_grown : Below w2.heap.size w2 (w2.alloc (.cells #[] 3)))
      clear q HN hcd bw
      go_wp2
      go_ret2
      rw [HE.out]
      exact ⟨⟨_, rfl, q9⟩, bz⟩

theorem ints_of_row {w : World} {B n c : Nat} {a : Option Addr} {xs : List Int} (h : w.ownsRow B 3 1 (.slice a n c) n (xs.map (Value.int .i64))) : Ints .i64 w a n c xs := by
  have hl := h.1
  rw [List.length_map, Nat.mul_one] at hl
  rcases h.2 with ⟨h1, h2⟩ | ⟨g, cap, cur, h1, _, _, h3, h4, _⟩
  · cases h1
    exact ⟨hl, Nat.le_refl _, Nat.zero_le _, .inl rfl⟩
  · cases h1
    exact Ints.of_owns h
noncomputable def scV (rows : List (List I3)) (ks ls : List Int) : Bool := if 4096 < ks.length ∨ 4096 < ls.length then false else if evK rows ks = 0 then (if evK rows ls = 0 then decide (nrmE (evE rows ks) = nrmE (evE rows ls)) else false) else false
def scC (rows : List (List I3)) (ks ls : List Int) : Int := if 4096 < ks.length ∨ 4096 < ls.length then 2 else if evK rows ks = 0 then evK rows ls else evK rows ks

set_option maxHeartbeats 1000000 in
set_option maxRecDepth 100000 in
theorem implSameClass_is (a : Option Addr) (len cap : Nat) (rows : List (List I3)) (la : Option Addr) (n c : Nat) (ks : List Int) (lb : Option Addr) (n' c' : Nat) (ls : List Int) (w : World) (hC : Codes w a len cap rows) (hV : VmShape w) (hL : Ints .i64 w la n c ks) (hM : Ints .i64 w lb n' c' ls) :
    Calls Tryd.prog 27 #[.agg #[.slice a len cap], .slice la n c, .slice lb n' c'] w fun e w' => e = .returned (.tuple #[.bool (scV rows ks ls), .int .i64 (scC rows ks ls)]) ∧ Below w.heap.size w w' := by
  have bw : Below w.heap.size w (w.alloc (.cells #[.slice a len cap] 25)) := by go_grown
  have pP : Blk (w.alloc (.cells #[.slice a len cap] 25)) w.heap.size 25 [.slice a len cap] := blkAt _ _ _ rfl
  unfold scV scC
  rw [hL.1, hM.1]
  by_cases h1 : 4096 < n
  · have h1' : (4096 : Int) < (n : Int) := by omega
    rw [if_pos (Or.inl h1), if_pos (Or.inl h1)]
    clear hC hL hM h1 hV pP
    go_enter Tryd.func27, Tryd.ntmps27
    go_wp2
    go_ret2
    exact ⟨rfl, bw⟩
  have h1' : ¬ (4096 : Int) < (n : Int) := by omega
  by_cases h2 : 4096 < n'
  · have h2' : (4096 : Int) < (n' : Int) := by omega
    rw [if_pos (Or.inr h2), if_pos (Or.inr h2)]
    clear hC hL hM h1 h2 hV pP
    go_enter Tryd.func27, Tryd.ntmps27
    go_wp2
    go_ret2
    exact ⟨rfl, bw⟩
  have h2' : ¬ (4096 : Int) < (n' : Int) := by omega
  have h9 : ¬ (4096 < n ∨ 4096 < n') := by omega
  rw [if_neg h9, if_neg h9]
  have kN := fun W (b : Below w.heap.size w W) => implNormalOf_is a len cap rows la n c ks W (hC.below b) (hV.below b) (hL.below b)
  have kM := fun W (b : Below w.heap.size w W) => implNormalOf_is a len cap rows lb n' c' ls W (hC.below b) (hV.below b) (hM.below b)
  generalize nrmE (evE rows ks) = xs at *
  generalize nrmE (evE rows ls) = ys at *
  generalize evK rows ks = ck1 at *
  generalize evK rows ls = ck2 at *
  obtain ⟨b9, hb9⟩ : ∃ b9, b9 = (if ck1 = 0 then (if ck2 = 0 then decide (xs = ys) else false) else false) := ⟨_, rfl⟩
  obtain ⟨c9, hc9⟩ : ∃ c9, c9 = (if ck1 = 0 then ck2 else ck1) := ⟨_, rfl⟩
  have HB : Hid (b9 = (if ck1 = 0 then (if ck2 = 0 then decide (xs = ys) else false) else false) ∧ c9 = (if ck1 = 0 then ck2 else ck1)) := ⟨hb9, hc9⟩
  rw [← hb9, ← hc9]
  clear hC hL hM h1 h2 h9 hV hb9 hc9
  go_enter Tryd.func27, Tryd.ntmps27
  go_wp2_with fail
  generalize (w.alloc (.cells #[.slice a len cap] 25)) = U at *
  go_wp2_with (first | refine wpList_load_blk rfl 25 _ rfl w.heap.size rfl pP _ Tryd.underlying25 rfl (by kernel_rfl) ?_)
  refine (kN _ bw).mono ?_
  rintro e w1 ⟨⟨v1, rfl, q1⟩, hb⟩
  replace bw := bel_trans bw hb
  replace pP := pP.below hb
  clear hb kN
  by_cases e1 : ck1 = 0
  · subst e1
    go_wp2_with (first | refine wpList_load_blk rfl 25 _ rfl w.heap.size rfl pP _ Tryd.underlying25 rfl (by kernel_rfl) ?_)
    refine (kM _ bw).mono ?_
    rintro e w2 ⟨⟨v2, rfl, q2⟩, hb⟩
    replace bw := bel_trans bw hb
    replace q1 := owns_below q1 hb
    clear hb kM pP
    by_cases e2 : ck2 = 0
    · subst e2
      obtain ⟨x1, y1, rfl⟩ := owns_sliceN q1
      obtain ⟨x2, y2, rfl⟩ := owns_sliceN q2
      have kS := slEqual_is x1 xs.length y1 xs x2 ys.length y2 ys w2 (ints_of_row q1) (ints_of_row q2)
      obtain ⟨n1, hn1⟩ : ∃ n1, n1 = xs.length := ⟨_, rfl⟩
      obtain ⟨n2, hn2⟩ : ∃ n2, n2 = ys.length := ⟨_, rfl⟩
      rw [← hn1, ← hn2] at kS
      rw [← hn1, ← hn2]
      clear q1 q2 hn1 hn2
      go_wp2_with fail
      refine kS.mono ?_
      rintro e w3 ⟨rfl, d, rfl⟩
      clear kS
      go_wp2
      go_ret2
      rw [HB.out.1, HB.out.2]
      exact ⟨rfl, bel_trans bw (below_dN d)⟩
    · have hne : (ck2 != 0) = true := by simp [e2]
      have HB2 : Hid (b9 = false ∧ c9 = ck2) := by rw [Hid, HB.out.1, HB.out.2]; simp [e2]
      clear q1 q2 e2
      go_wp2
      go_ret2
      rw [HB2.out.1, HB2.out.2]
      exact ⟨rfl, bw⟩
  · have hne : (ck1 != 0) = true := by simp [e1]
    have HB2 : Hid (b9 = false ∧ c9 = ck1) := by rw [Hid, HB.out.1, HB.out.2]; simp [e1]
    clear q1 e1 kM pP
    go_wp2
    go_ret2
    rw [HB2.out.1, HB2.out.2]
    exact ⟨rfl, bw⟩
end Go.Proofs.YtdojjmkpelgcaaaDoor

