/-
  Joined: ScI, NrmR, EvM, Schd, SchD, WitA, WitB, FrP, Vm5, SameVmI, RowBelow, CmW.
-/
import Derived.Test.YtmhngodbnoonhaaGreatDoorK49
import Derived.Test.YtmhngodbnoonhaaGreatDoorK48
import Derived.Test.YtmhngodbnoonhaaGreatDoorK02
import Derived.Deep.RegionHeld3
import Derived.Test.YtmhngodbnoonhaaGreatDoorK42
import Derived.Test.YtmhngodbnoonhaaGreatDoorK35
import Derived.Test.YtmhngodbnoonhaaGreatDoorK45
import Derived.Test.YtmhngodbnoonhaaGreatDoorK46
import Derived.BigQuiet
import Derived.Test.YtmhngodbnoonhaaGreatDoorK09
import Derived.Test.YtmhngodbnoonhaaGreatDoorK14
import Derived.Deep.QuietTactic
import Derived.Test.YtmhngodbnoonhaaGreatDoorK01
import Derived.Test.YtmhngodbnoonhaaGreatDoorK44
import Derived.Test.YtmhngodbnoonhaaGreatDoorK47

/-
  Slices of numbers that are equal; the specification's NormalOf; the program's SameClass.
-/
namespace Go.Proofs.YtmhngodbnoonhaaGreatDoor
open Go.RowKit
set_option linter.unusedVariables false
set_option linter.unusedSimpArgs false

set_option maxHeartbeats 1000000 in
set_option maxRecDepth 100000 in
theorem slEqual_is (a : Option Addr) (n c : Nat) (xs : List Int) (a' : Option Addr) (n' c' : Nat) (ys : List Int) (w : World) (h : Ints .i64 w a n c xs) (h' : Ints .i64 w a' n' c' ys) :
    Calls Tryz.prog 42 #[.slice a n c, .slice a' n' c'] w fun e w' => e = .returned (.bool (decide (xs = ys))) ∧ ∃ d, w' = w.drewN d := by
  obtain ⟨dd, hdd⟩ : ∃ dd, dd = decide (xs = ys) := ⟨_, rfl⟩
  rw [← hdd]
  have HD : Hid (dd = decide (xs = ys)) := hdd
  clear hdd
  obtain ⟨hl, hlc, hcm, hcase⟩ := h
  obtain ⟨hl', hlc', hcm', hcase'⟩ := h'
  unfold maxLen at hcm hcm'
  by_cases hnn : n = n'
  case neg =>
    have hne : ((n : Int) != (n' : Int)) = true := by simp; omega
    have HF : Hid (dd = false) := by
      rw [Hid, HD.out, decide_eq_false_iff_not]
      intro e
      rw [e, hl'] at hl
      exact hnn hl.symm
    clear hcase hcase'
    go_enter Tryz.func42, Tryz.ntmps42
    go_wp2
    go_ret
    exact ⟨by rw [HF.out]; rfl, 0, rfl⟩
  subst hnn
  have hne : ((n : Int) != (n : Int)) = false := by simp
  by_cases h0 : n = 0
  · subst h0
    have HT : Hid (dd = true) := by
      rw [Hid, HD.out, decide_eq_true_iff, List.length_eq_zero_iff.1 hl, List.length_eq_zero_iff.1 hl']
    clear hcase hcase' hl hl'
    go_enter Tryz.func42, Tryz.ntmps42
    go_wp2
    refine wp_loop_rounds 1 ?_
    rw [rounds_succ]
    go_wp2
    go_ret
    exact ⟨by rw [HT.out]; rfl, 0, rfl⟩
  · rcases hcase with h0' | ⟨b, off, rfl, hblt, hcell⟩
    · exact absurd h0' h0
    rcases hcase' with h0' | ⟨b', off', rfl, hblt', hcell'⟩
    · exact absurd h0' h0
    have HL : Hid (xs.length = n ∧ ys.length = n) := ⟨hl, hl'⟩
    clear hl hl'
    go_enter Tryz.func42, Tryz.ntmps42
    go_wp2
    go_loopw [13] (fun si wr => ∃ k d : Nat, k ≤ n ∧ si = .int .i64 k ∧ Hid (∀ i, i < k → xs.getD i 0 = ys.getD i 0) ∧ wr = w.drewN d) (fun si _ => n - (intOf si).toNat)
    case atStart => exact ⟨0, 0, by omega, rfl, fun i hi => by omega, rfl⟩
    case round =>
      obtain ⟨k, d, hk, rfl, hH, rfl⟩ := hrel
      by_cases hlt : k < n
      · have hc := hcell k hlt
        have hc' := hcell' k hlt
        have hlt' : (k : Int) < (n : Int) := by omega
        clear hcell hcell'
        by_cases hx : xs.getD k 0 = ys.getD k 0
        · have hH2 : Hid (∀ i, i < k + 1 → xs.getD i 0 = ys.getD i 0) := fun i hi => by
            by_cases e : i = k
            · subst e; exact hx
            · exact hH.out i (by omega)
          rw [← hx] at hc'
          clear hx hH
          generalize xs.getD k 0 = x at hc hc'
          have hxx : (x != x) = false := by simp
          go_wp2
          go_quiet (fail)
          go_wp2
          go_roundw
          case rel => exact ⟨k + 1, _, by omega, by go_num, hH2, rfl⟩
          case measure => simp [intOf]; omega
        · have HF : Hid (dd = false) := by
            rw [Hid, HD.out, decide_eq_false_iff_not]
            intro e
            rw [e] at hx
            exact hx rfl
          have hxx : (xs.getD k 0 != ys.getD k 0) = true := by simpa using hx
          clear hx hH
          generalize xs.getD k 0 = x at hc hxx
          generalize ys.getD k 0 = y at hc' hxx
          go_wp2
          go_quiet (fail)
          go_wp2
          go_ret
          exact ⟨by rw [HF.out]; rfl, d + nq, by simp [World.drewN]; omega⟩
      · have HT : Hid (dd = true) := by
          rw [Hid, HD.out, decide_eq_true_iff]
          have hL := HL.out
          exact ext_getDL (by omega) (fun i hi => hH.out i (by omega))
        clear hcell hcell' hH
        go_wp2
        go_ret
        exact ⟨by rw [HT.out]; rfl, d, rfl⟩

set_option maxHeartbeats 1000000 in
set_option maxRecDepth 100000 in
theorem specNormalOf_is (a : Option Addr) (len cap : Nat) (rows : List (List I3)) (la : Option Addr) (n c : Nat) (ks : List Int) (w : World) (hC : Codes w a len cap rows) (hL : Ints .i64 w la n c ks) :
    Calls Tryz.prog 16 #[.agg #[.slice a len cap], .slice la n c] w fun e w' => LGot e w' w.heap.size (nrmE (evE rows ks)) (evK rows ks) ∧ Below w.heap.size w w' := by
  have hI := evE_three rows ks
  have hE := evE_len9 rows ks
  have HN : Hid (evK rows ks ≠ 0 → nrmE (evE rows ks) = []) := fun h => by rw [evE_nil h]; rfl
  have bw : Below w.heap.size w (w.alloc (.cells #[.slice a len cap] 25)) := by go_grown
  have pP : Blk (w.alloc (.cells #[.slice a len cap] 25)) w.heap.size 25 [.slice a len cap] := blkAt _ _ _ rfl
  by_cases hn : 4096 < n
  · have hn' : (4096 : Int) < (n : Int) := by omega
    have e1 : evK rows ks = 2 := by unfold evK; rw [hL.1, if_pos hn]
    rw [HN.out (by rw [e1]; decide), e1]
    clear hC hL hn pP HN hI hE e1
    go_enter Tryz.func16, Tryz.ntmps16
    go_wp2
    go_ret2
    exact ⟨⟨_, rfl, by simpa using own_emptyB (w.alloc (.cells #[.slice a len cap] 25)) 3 1 w.heap.size (by simp)⟩, bel_trans bw (by go_grown)⟩
  have hn' : ¬ (4096 : Int) < (n : Int) := by omega
  have kA := fun W (b : Below w.heap.size w W) => l05Ask_is a len cap rows la n c W (hC.below b) hn
  cases hp : progOk rows
  · have e1 : evK rows ks = 1 := by unfold evK; rw [hL.1, if_neg hn, hp]; rfl
    rw [HN.out (by rw [e1]; decide), e1]
    rw [hp] at kA
    simp only [Bool.false_eq_true, if_false] at kA
    clear hp hC hL hn HN hI hE e1
    go_enter Tryz.func16, Tryz.ntmps16
    go_wp2_with fail
    generalize (w.alloc (.cells #[.slice a len cap] 25)) = U at *
    go_wp2_with (first | refine wpList_load_blk rfl 25 _ rfl w.heap.size rfl pP _ Tryz.underlying25 rfl (by kernel_rfl) ?_)
    refine (kA _ bw).mono ?_
    rintro e w1 ⟨rfl, hb⟩
    replace bw := bel_trans bw hb
    have q := own_emptyB w1 3 1 w.heap.size bw.size
    have bz := bel_trans bw (by go_grown : Below w1.heap.size w1 (w1.alloc (.cells #[] 3)))
    clear hb kA pP bw
    go_wp2
    go_ret2
    exact ⟨⟨_, rfl, q⟩, bz⟩
  · rw [hp] at kA
    simp only [if_true] at kA
    obtain ⟨rfl, cs, hR⟩ := hC.rowsAt hp
    have kE := fun W (b : Below w.heap.size w W) => l05Events_is (cap := cap) (hR.below b) hp (hL.below b) (by omega)
    have e1 : (if (runI rows zeroV [] ks).2.2 = 0 then evsM rows zeroV ks else []) = evE rows ks := by unfold evE; rw [hL.1, if_neg hn, hp]; rfl
    have e2 : (runI rows zeroV [] ks).2.2 = evK rows ks := by unfold evK; rw [hL.1, if_neg hn, hp]; rfl
    rw [e1, e2] at kE
    clear e1 e2
    generalize evE rows ks = es at *
    generalize evK rows ks = cd at *
    clear hp hC hL hn hR
    go_enter Tryz.func16, Tryz.ntmps16
    go_wp2_with fail
    generalize (w.alloc (.cells #[.slice a 3 cap] 25)) = U at *
    go_wp2_with (first | refine wpList_load_blk rfl 25 _ rfl w.heap.size rfl pP _ Tryz.underlying25 rfl (by kernel_rfl) ?_)
    refine (kA _ bw).mono ?_
    rintro e w1 ⟨rfl, hb⟩
    replace bw := bel_trans bw hb
    replace pP := pP.below hb
    clear hb kA
    go_wp2_with (first | refine wpList_load_blk rfl 25 _ rfl w.heap.size rfl pP _ Tryz.underlying25 rfl (by kernel_rfl) ?_)
    refine (kE _ bw).mono ?_
    rintro e w2 ⟨⟨v, rfl, q⟩, hb⟩
    replace bw := bel_trans bw hb
    clear hb kE pP
    by_cases hcd : cd = 0
    · subst hcd
      obtain ⟨ea, ec, rfl, hEv⟩ := evs_slice q
      have kN := l05Normal_is ea es.length ec es w2 hEv hE hI
      obtain ⟨n9, hn9⟩ : ∃ n9, n9 = es.length := ⟨_, rfl⟩
      rw [← hn9] at kN ⊢
      clear q hEv hn9 HN
      go_wp2_with fail
      refine kN.mono ?_
      rintro e w3 ⟨⟨v3, rfl, q3⟩, hb⟩
      replace q3 := own_lowerB (B' := w.heap.size) q3 bw.size
      replace bw := bel_trans bw hb
      clear hb kN
      go_wp2
      go_ret2
      exact ⟨⟨_, rfl, q3⟩, bw⟩
    · have hne : (cd != 0) = true := by simp [hcd]
      have HE : Hid (nrmE es = []) := HN.out hcd
      have q9 := own_emptyB w2 3 1 w.heap.size bw.size
      have bz := bel_trans bw (by go_grown : Below w2.heap.size w2 (w2.alloc (.cells #[] 3)))
      clear q HN hcd bw
      go_wp2
      go_ret2
      rw [HE.out]
      exact ⟨⟨_, rfl, q9⟩, bz⟩

theorem ints_of_row {w : World} {B n c : Nat} {a : Option Addr} {xs : List Int} (h : w.ownsRow B 3 1 (.slice a n c) n (xs.map (Value.int .i64))) : Ints .i64 w a n c xs := by
  have hl := h.1
  rw [List.length_map, Nat.mul_one] at hl
  rcases h.2 with ⟨h1, h2⟩ | ⟨g, cap, cur, h1, _, _, h3, h4, _⟩
  · cases h1
    exact ⟨hl, Nat.le_refl _, Nat.zero_le _, .inl rfl⟩
  · cases h1
    exact Ints.of_owns h
/-- Whether two schedules are of one class, and the code. -/
noncomputable def scV (rows : List (List I3)) (ks ls : List Int) : Bool := if 4096 < ks.length ∨ 4096 < ls.length then false else if evK rows ks = 0 then (if evK rows ls = 0 then decide (nrmE (evE rows ks) = nrmE (evE rows ls)) else false) else false
def scC (rows : List (List I3)) (ks ls : List Int) : Int := if 4096 < ks.length ∨ 4096 < ls.length then 2 else if evK rows ks = 0 then evK rows ls else evK rows ks

set_option maxHeartbeats 1000000 in
set_option maxRecDepth 100000 in
theorem implSameClass_is (a : Option Addr) (len cap : Nat) (rows : List (List I3)) (la : Option Addr) (n c : Nat) (ks : List Int) (lb : Option Addr) (n' c' : Nat) (ls : List Int) (w : World) (hC : Codes w a len cap rows) (hV : VmShape w) (hL : Ints .i64 w la n c ks) (hM : Ints .i64 w lb n' c' ls) :
    Calls Tryz.prog 13 #[.agg #[.slice a len cap], .slice la n c, .slice lb n' c'] w fun e w' => e = .returned (.tuple #[.bool (scV rows ks ls), .int .i64 (scC rows ks ls)]) ∧ Below w.heap.size w w' := by
  have bw : Below w.heap.size w (w.alloc (.cells #[.slice a len cap] 25)) := by go_grown
  have pP : Blk (w.alloc (.cells #[.slice a len cap] 25)) w.heap.size 25 [.slice a len cap] := blkAt _ _ _ rfl
  unfold scV scC
  rw [hL.1, hM.1]
  by_cases h1 : 4096 < n
  · have h1' : (4096 : Int) < (n : Int) := by omega
    rw [if_pos (Or.inl h1), if_pos (Or.inl h1)]
    clear hC hL hM h1 hV pP
    go_enter Tryz.func13, Tryz.ntmps13
    go_wp2
    go_ret2
    exact ⟨rfl, bw⟩
  have h1' : ¬ (4096 : Int) < (n : Int) := by omega
  by_cases h2 : 4096 < n'
  · have h2' : (4096 : Int) < (n' : Int) := by omega
    rw [if_pos (Or.inr h2), if_pos (Or.inr h2)]
    clear hC hL hM h1 h2 hV pP
    go_enter Tryz.func13, Tryz.ntmps13
    go_wp2
    go_ret2
    exact ⟨rfl, bw⟩
  have h2' : ¬ (4096 : Int) < (n' : Int) := by omega
  have h9 : ¬ (4096 < n ∨ 4096 < n') := by omega
  rw [if_neg h9, if_neg h9]
  have kN := fun W (b : Below w.heap.size w W) => implNormalOf_is a len cap rows la n c ks W (hC.below b) (hV.below b) (hL.below b)
  have kM := fun W (b : Below w.heap.size w W) => implNormalOf_is a len cap rows lb n' c' ls W (hC.below b) (hV.below b) (hM.below b)
  generalize nrmE (evE rows ks) = xs at *
  generalize nrmE (evE rows ls) = ys at *
  generalize evK rows ks = ck1 at *
  generalize evK rows ls = ck2 at *
  obtain ⟨b9, hb9⟩ : ∃ b9, b9 = (if ck1 = 0 then (if ck2 = 0 then decide (xs = ys) else false) else false) := ⟨_, rfl⟩
  obtain ⟨c9, hc9⟩ : ∃ c9, c9 = (if ck1 = 0 then ck2 else ck1) := ⟨_, rfl⟩
  have HB : Hid (b9 = (if ck1 = 0 then (if ck2 = 0 then decide (xs = ys) else false) else false) ∧ c9 = (if ck1 = 0 then ck2 else ck1)) := ⟨hb9, hc9⟩
  rw [← hb9, ← hc9]
  clear hC hL hM h1 h2 h9 hV hb9 hc9
  go_enter Tryz.func13, Tryz.ntmps13
  go_wp2_with fail
  generalize (w.alloc (.cells #[.slice a len cap] 25)) = U at *
  go_wp2_with (first | refine wpList_load_blk rfl 25 _ rfl w.heap.size rfl pP _ Tryz.underlying25 rfl (by kernel_rfl) ?_)
  refine (kN _ bw).mono ?_
  rintro e w1 ⟨⟨v1, rfl, q1⟩, hb⟩
  replace bw := bel_trans bw hb
  replace pP := pP.below hb
  clear hb kN
  by_cases e1 : ck1 = 0
  · subst e1
    go_wp2_with (first | refine wpList_load_blk rfl 25 _ rfl w.heap.size rfl pP _ Tryz.underlying25 rfl (by kernel_rfl) ?_)
    refine (kM _ bw).mono ?_
    rintro e w2 ⟨⟨v2, rfl, q2⟩, hb⟩
    replace bw := bel_trans bw hb
    replace q1 := owns_below q1 hb
    clear hb kM pP
    by_cases e2 : ck2 = 0
    · subst e2
      obtain ⟨x1, y1, rfl⟩ := owns_sliceN q1
      obtain ⟨x2, y2, rfl⟩ := owns_sliceN q2
      have kS := slEqual_is x1 xs.length y1 xs x2 ys.length y2 ys w2 (ints_of_row q1) (ints_of_row q2)
      obtain ⟨n1, hn1⟩ : ∃ n1, n1 = xs.length := ⟨_, rfl⟩
      obtain ⟨n2, hn2⟩ : ∃ n2, n2 = ys.length := ⟨_, rfl⟩
      rw [← hn1, ← hn2] at kS
      rw [← hn1, ← hn2]
      clear q1 q2 hn1 hn2
      go_wp2_with fail
      refine kS.mono ?_
      rintro e w3 ⟨rfl, d, rfl⟩
      clear kS
      go_wp2
      go_ret2
      rw [HB.out.1, HB.out.2]
      exact ⟨rfl, bel_trans bw (below_dN d)⟩
    · have hne : (ck2 != 0) = true := by simp [e2]
      have HB2 : Hid (b9 = false ∧ c9 = ck2) := by rw [Hid, HB.out.1, HB.out.2]; simp [e2]
      clear q1 q2 e2
      go_wp2
      go_ret2
      rw [HB2.out.1, HB2.out.2]
      exact ⟨rfl, bw⟩
  · have hne : (ck1 != 0) = true := by simp [e1]
    have HB2 : Hid (b9 = false ∧ c9 = ck1) := by rw [Hid, HB.out.1, HB.out.2]; simp [e1]
    clear q1 e1 kM pP
    go_wp2
    go_ret2
    rw [HB2.out.1, HB2.out.2]
    exact ⟨rfl, bw⟩
end Go.Proofs.YtmhngodbnoonhaaGreatDoor


/-
  A normal form can be run, comes to the same state, and its events differ from the row's by neighbours that do not depend.
-/
namespace Go.Proofs.YtmhngodbnoonhaaGreatDoor
open Go.RowKit
set_option linter.unusedVariables false

theorem sw_front {e : I4} {b : List I4} : ∀ (a : List I4), (∀ x ∈ a, depM x e = false) → Sw (a ++ e :: b) (e :: (a ++ b))
  | [], _ => .refl _
  | x :: a, h => by
    have h1 := sw_front (b := b) a (fun z hz => h z (by simp [hz]))
    exact (h1.cons x).step ⟨[], x, e, a ++ b, rfl, rfl, h x (by simp)⟩
theorem to_front {rows : List (List I3)} (hp : progOk rows = true) {k : Int} {kb : List Int} : ∀ (ka : List Int) (m : V4) (fs : List I3) (a b : List I4) (e : I4), shapeOk m = true → (runI rows m fs (ka ++ k :: kb)).2.2 = 0 → evsM rows m (ka ++ k :: kb) = a ++ e :: b → a.length = ka.length → (∀ x ∈ a, depM x e = false) →
    (runI rows m fs (k :: (ka ++ kb))).1 = (runI rows m fs (ka ++ k :: kb)).1 ∧ (runI rows m fs (k :: (ka ++ kb))).2.2 = 0 ∧ evsM rows m (k :: (ka ++ kb)) = e :: (a ++ b)
  | [], m, fs, a, b, e, hs, h, he, hl, hd => by
    have h0 : a = [] := by cases a with
      | nil => rfl
      | cons _ _ => simp at hl
    subst h0
    exact ⟨rfl, h, he⟩
  | j :: ka, m, fs, a, b, e, hs, h, he, hl, hd => by
    cases a with
    | nil => simp at hl
    | cons x a =>
      rw [List.cons_append] at h he ⊢
      obtain ⟨h1, e1⟩ := runI_cons h
      have he' : eventM rows m j.toNat :: evsM rows (goM rows m j).1 (ka ++ k :: kb) = x :: (a ++ e :: b) := he
      injection he' with hx hr
      rw [e1] at h
      have hs1 := goM_shape hp hs h1
      obtain ⟨i1, i2, i3⟩ := to_front hp ka _ _ a b e hs1 h hr (by simp at hl; exact hl) (fun z hz => hd z (by simp [hz]))
      have i4 : eventM rows (goM rows m j).1 k.toNat :: evsM rows (goM rows (goM rows m j).1 k).1 (ka ++ kb) = e :: (a ++ b) := i3
      injection i4 with i5 i6
      have i7 : (runI rows m fs (j :: k :: (ka ++ kb))).2.2 = 0 := by rw [runI_yes h1]; exact i2
      have hxe : depM (eventM rows m j.toNat) (eventM rows (goM rows m j).1 k.toNat) = false := by rw [hx, i5]; exact hd x (by simp)
      obtain ⟨s1, s2, s3⟩ := run_swap hp hs i7 hxe
      rw [List.cons_append, s3, s1, runI_yes h1, e1, i1, hx, i5, i6]
      exact ⟨rfl, s2, rfl⟩
theorem nrm_run {rows : List (List I3)} (hp : progOk rows = true) {es : List I4} {ts : List Int} (h : Nrm es ts) : ∀ (m : V4) (ks : List Int) (fs : List I3), shapeOk m = true → evsM rows m ks = es → (runI rows m fs ks).2.2 = 0 → (runI rows m fs ts).1 = (runI rows m fs ks).1 ∧ (runI rows m fs ts).2.2 = 0 ∧ Sw es (evsM rows m ts) := by
  induction h with
  | nil =>
    intro m ks fs hs he hr
    have : ks = [] := by
      have h1 := evsM_len rows ks m
      rw [he] at h1
      cases ks with
      | nil => rfl
      | cons _ _ => simp at h1
    subst this
    exact ⟨rfl, rfl, .refl _⟩
  | @cons es rest e ts p n ih =>
    intro m ks fs hs he hr
    obtain ⟨⟨a, b, h1, h2, h3⟩, _⟩ := p
    have hlen := evsM_len rows ks m
    rw [he, h1] at hlen
    have hla : a.length < ks.length := by rw [← hlen]; simp
    obtain ⟨ka, k, kb, hk, hka⟩ : ∃ ka k kb, ks = ka ++ k :: kb ∧ ka.length = a.length := ⟨ks.take a.length, ks[a.length], ks.drop (a.length + 1), by rw [← List.drop_eq_getElem_cons hla, List.take_append_drop], by simp; omega⟩
    subst hk
    obtain ⟨f1, f2, f3⟩ := to_front hp ka m fs a b e hs hr (he.trans h1) hka.symm h3
    obtain ⟨g1, g2⟩ := runI_cons f2
    rw [g2] at f1 f2
    have f4 : eventM rows m k.toNat :: evsM rows (goM rows m k).1 (ka ++ kb) = e :: (a ++ b) := f3
    injection f4 with f5 f6
    have hek : e.1 = k := by
      obtain ⟨q0, _, _, _⟩ := halt_can g1
      rw [← f5]
      show ((k.toNat : Nat) : Int) = k
      omega
    obtain ⟨r1, r2, r3⟩ := ih _ (ka ++ kb) (fs ++ ownM rows m k) (goM_shape hp hs g1) (f6.trans h2.symm) f2
    rw [hek, runI_yes g1, r1, f1]
    refine ⟨rfl, r2, ?_⟩
    have r4 : evsM rows m (k :: ts) = e :: evsM rows (goM rows m k).1 ts := by
      show eventM rows m k.toNat :: _ = _
      rw [f5]
    rw [r4, h1]
    refine (sw_front a h3).trans (Sw.cons e ?_)
    rw [← h2]
    exact r3
/-- A normal form is its own. -/
theorem nrm_self {rows : List (List I3)} (hp : progOk rows = true) {ks : List Int} {ts : List Int} (h : Nrm (evsM rows zeroV ks) ts) (hr : (runI rows zeroV [] ks).2.2 = 0) : (runI rows zeroV [] ts).1 = (runI rows zeroV [] ks).1 ∧ (runI rows zeroV [] ts).2.2 = 0 ∧ Nrm (evsM rows zeroV ts) ts := by
  obtain ⟨a, b, c⟩ := nrm_run hp h zeroV ks [] zero_shape rfl hr
  exact ⟨a, b, nrm_sw h c⟩
end Go.Proofs.YtmhngodbnoonhaaGreatDoor


/-
  Rows of events: the laws' eqEvent, eqEventS, markEventS, heldEventS.
-/
namespace Go.Proofs.YtmhngodbnoonhaaGreatDoor
open Go.RowKit
set_option linter.unusedVariables false
set_option linter.unusedSimpArgs false

/-- A row with its first j events marked, from k on. -/
def mk4 : Int → List I4 → Nat → List I4
  | _, xs, 0 => xs
  | _, [], _ + 1 => []
  | k, _ :: xs, j + 1 => (k, k + 1, k + 2, k + 3) :: mk4 (k + 4) xs j
theorem mk4_len : ∀ (k : Int) (xs : List I4) (j : Nat), (mk4 k xs j).length = xs.length
  | _, xs, 0 => by simp [mk4]
  | _, [], _ + 1 => by simp [mk4]
  | k, _ :: xs, j + 1 => by simp [mk4, mk4_len]
theorem mk4_set : ∀ (k : Int) (xs : List I4) (j : Nat), j < xs.length →
    ((((flat4 (mk4 k xs j)).set (j * 4) (.int .i64 (k + j * 4))).set (j * 4 + 1) (.int .i64 (k + j * 4 + 1))).set (j * 4 + 2) (.int .i64 (k + j * 4 + 2))).set (j * 4 + 3) (.int .i64 (k + j * 4 + 3)) = flat4 (mk4 k xs (j + 1))
  | _, [], j, h => by simp at h
  | k, x :: xs, 0, _ => by simp [mk4, flat4]
  | k, x :: xs, j + 1, h => by
    have ih := mk4_set (k + 4) xs j (by simpa using h)
    have e1 : k + ((j + 1 : Nat) : Int) * 4 = k + 4 + (j : Int) * 4 := by omega
    rw [e1]
    have e2 : (j + 1) * 4 = j * 4 + 1 + 1 + 1 + 1 := by omega
    simp only [mk4, flat4, List.cons_append, List.nil_append] at ih ⊢
    rw [e2]
    simp only [List.set_cons_succ]
    rw [ih]
theorem mk4_get : ∀ (k : Int) (xs : List I4) (j i : Nat), i < j → j ≤ xs.length → (mk4 k xs j).getD i (0, 0, 0, 0) = (k + i * 4, k + i * 4 + 1, k + i * 4 + 2, k + i * 4 + 3)
  | _, xs, 0, i, h, _ => by omega
  | _, [], j + 1, i, _, h => by simp at h
  | k, x :: xs, j + 1, 0, _, _ => by simp [mk4]
  | k, x :: xs, j + 1, i + 1, h, hl => by
    have ih := mk4_get (k + 4) xs j i (by omega) (by simpa using hl)
    have e : k + ((i + 1 : Nat) : Int) * 4 = k + 4 + (i : Int) * 4 := by omega
    rw [e, ← ih]
    simp [mk4]

end Go.Proofs.YtmhngodbnoonhaaGreatDoor


/-
  The specification's drawn schedule: threads that can go on, one after the other; in memory of its own.
-/
namespace Go.Proofs.YtmhngodbnoonhaaGreatDoor
open Go.RowKit
set_option linter.unusedVariables false
set_option linter.unusedSimpArgs false

/-- A schedule goes to a state. -/
def goesTo (rows : List (List I3)) (ks : List Int) (m : V4) : Prop := (runI rows zeroV [] ks).2.2 = 0 ∧ (runI rows zeroV [] ks).1 = m
theorem runI_snoc (rows : List (List I3)) (k : Int) : ∀ (ks : List Int) (m : V4) (fs : List I3), (runI rows m fs ks).2.2 = 0 → runI rows m fs (ks ++ [k]) = runI rows (runI rows m fs ks).1 (runI rows m fs ks).2.1 [k]
  | [], m, fs, _ => rfl
  | j :: ks, m, fs, h => by
    by_cases hz : haltM rows m j = 0
    · have e1 : ∀ l, runI rows m fs (j :: l) = runI rows (goM rows m j).1 (fs ++ ownM rows m j) l := fun l => by
        show (if haltM rows m j = 0 then _ else _) = _
        rw [if_pos hz]
      rw [e1] at h
      rw [List.cons_append, e1, e1]
      exact runI_snoc rows k ks _ _ h
    · have e1 : runI rows m fs (j :: ks) = (m, fs, haltM rows m j) := by
        show (if haltM rows m j = 0 then _ else _) = _
        rw [if_neg hz]
      rw [e1] at h
      exact absurd h hz
theorem goesTo.snoc {rows : List (List I3)} {ks : List Int} {m : V4} {k : Nat} (h : goesTo rows ks m) (hk : k < 3) (hc : canM rows m k = true) : goesTo rows (ks ++ [(k : Int)]) (stepM m (insM rows m k) k).1 := by
  have hz : haltM rows m (k : Int) = 0 := by
    have hd := (can_parts hc).1
    unfold haltM
    rw [if_pos (by omega), Int.toNat_natCast]
    simp [hd, hc]
  have e := runI_snoc rows (k : Int) ks zeroV [] h.1
  rw [h.2] at e
  have e2 : runI rows m (runI rows zeroV [] ks).2.1 [(k : Int)] = ((goM rows m k).1, (runI rows zeroV [] ks).2.1 ++ ownM rows m k, 0) := by
    show (if haltM rows m k = 0 then _ else _) = _
    rw [if_pos hz]
    rfl
  rw [e2] at e
  unfold goesTo
  rw [e, goM_nat]
  exact ⟨rfl, rfl⟩
theorem own_apart_ne {w : World} {B e s n g t : Nat} {v : Value} {xs cs : List Value} (h : w.ownsRow B e s v n xs) (hB : Blk w g t cs) (he : e ≠ t) : v.ownBlock ≠ some g := own_ne_blk h hB he
theorem below_growS {p : Nat} {w w' : World} {r : Option Nat} (h : w.grownBy w' r) (hr : ∀ k, r = some k → p ≤ k) (hp : p ≤ w.heap.size) : Below p w w' := ⟨h.os, h.tape, h.output, h.size, fun k hk => h.block k (by omega) (fun e => by have := hr k e.symm; omega)⟩
theorem own_kept_ltS {w w' : World} {b N e s n : Nat} {v : Value} {xs : List Value} {r : Option Nat} (h : w.ownsRow b e s v n xs) (hg : w.grownBy w' r) (hr : ∀ j, r = some j → j < N) (hN : N ≤ b) : w'.ownsRow b e s v n xs := by
  refine h.kept hg ?_
  cases hv : v.ownBlock with
  | none => exact .inl rfl
  | some j => exact .inr fun e => by have h1 := (h.lt j hv).1; have h2 := hr j e.symm; omega
theorem OwnV.kept_ltS {w w' : World} {B b N : Nat} {t : S4} {m : V4} {r : Option Nat} (h : OwnV w b t m) (hg : w.grownBy w' r) (hr : ∀ j, r = some j → j < N) (hB : B ≤ b) (hN : N ≤ b) : OwnV w' B t m :=
  ⟨⟨own_lowerB (own_kept_ltS h.1.1 hg hr hN) hB, own_lowerB (own_kept_ltS h.1.2.1 hg hr hN) hB, own_lowerB (own_kept_ltS h.1.2.2.1 hg hr hN) hB, own_lowerB (own_kept_ltS h.1.2.2.2 hg hr hN) hB⟩, h.2⟩
/-- What is known on the way. -/
def OnSch (w wr : World) (p : Nat) (cd : Value) (a : Option Addr) (n cap T X5 : Nat) (aP : Option Addr) (capP : Nat) (rows : List (List I3)) (t : S4) (m : V4) (v : Value) (ks : List Int) : Prop :=
  Src wr p cd T ∧ Code wr p a n cap ∧ p < wr.heap.size ∧ Went p w wr ∧ Blk wr w.heap.size 25 [.slice aP 3 capP] ∧ Blk wr X5 33 (vmC t) ∧ OwnV wr (w.heap.size + 1) t m ∧ Hid (shapeOk m = true) ∧ wr.ownsRow (w.heap.size + 1) 3 1 v ks.length (ks.map (Value.int .i64)) ∧ Hid (goesTo rows ks m) ∧ w.heap.size < X5 ∧ ∃ g c, v = .slice (some ⟨g, 0, none⟩) ks.length c
def SchGot (e : Ending) (w : World) (B : Nat) (rows : List (List I3)) : Prop := ∃ (v : Value) (ks : List Int) (m : V4), (∃ g c, v = .slice (some ⟨g, 0, none⟩) ks.length c) ∧ e = .returned v ∧ w.ownsRow B 3 1 v ks.length (ks.map (Value.int .i64)) ∧ ks.length ≤ 14 ∧ goesTo rows ks m

set_option maxHeartbeats 600000 in
set_option maxRecDepth 100000 in
theorem schedule_any (p T : Nat) (a : Option Addr) (n cap : Nat) (aP : Option Addr) (capP : Nat) (rows : List (List I3)) (w : World) (hS : Src w p (.slice a n cap) T) (hC : Code w p a n cap) (hT : T ≤ 800000) (hok : progOk rows = true)
    (hPr : ∀ W, Below p w W → Codes W aP 3 capP rows) :
    Calls Tryz.prog 34 #[.pointer (some ⟨p, 0, none⟩), .agg #[.slice aP 3 capP]] w fun e w' => SchGot e w' w.heap.size rows ∧ Below p w w' := by
  obtain ⟨i0, hi9, hz0, hz1, hz2⟩ := info_parts info_int
  have hpw : p < w.heap.size := hS.lt
  have HOK : Hid (progOk rows = true) := hok
  clear hok
  have hW1 : Went p w (w.alloc (.cells #[.slice aP 3 capP] 25)) := (Went.refl p w).alloc _
  have pP : Blk (w.alloc (.cells #[.slice aP 3 capP] 25)) w.heap.size 25 [.slice aP 3 capP] := blkAt _ _ _ rfl
  have hS1 := hS.alloc (.cells #[.slice aP 3 capP] 25)
  have hC1 := hC.below (hW1.below (Nat.le_of_lt hpw))
  have hsz : (w.alloc (.cells #[.slice aP 3 capP] 25)).heap.size = w.heap.size + 1 := by simp
  go_enter Tryz.func34, Tryz.ntmps34
  go_wp2_with fail
  generalize (w.alloc (.cells #[.slice aP 3 capP] 25)) = W1 at *
  refine (specNewVm_is W1).mono ?_
  rintro e w2 ⟨⟨t0, rfl, hO⟩, hb⟩
  obtain ⟨⟨a0, n0, k0⟩, ⟨a1, n1, k1⟩, ⟨a2, n2, k2⟩, ⟨a3, n3, k3⟩⟩ := t0
  have uA : S4.val ((a0, n0, k0), (a1, n1, k1), (a2, n2, k2), (a3, n3, k3)) = .agg #[.slice a0 n0 k0, .slice a1 n1 k1, .slice a2 n2 k2, .slice a3 n3 k3] := rfl
  rw [uA]
  rw [hsz] at hO
  have hp1 : p < W1.heap.size := by omega
  have hW2 := hW1.trans (Went.of_below hb)
  have pP2 := pP.below hb
  have hS2 := hS1.belowD hb
  have hC2 := hC1.below (hb.mono (Nat.le_of_lt hp1))
  have hp2 : p < w2.heap.size := Nat.lt_of_lt_of_le hp1 hb.size
  have hw2 : w.heap.size < w2.heap.size := pP2.lt
  clear hb hW1 pP hS1 hC1 hp1 uA hsz
  have bA : Below w2.heap.size w2 ((w2.alloc (.cells #[.slice a0 n0 k0, .slice a1 n1 k1, .slice a2 n2 k2, .slice a3 n3 k3] 33)).alloc (.cells #[] 3)) := by go_grown
  have pX : Blk ((w2.alloc (.cells #[.slice a0 n0 k0, .slice a1 n1 k1, .slice a2 n2 k2, .slice a3 n3 k3] 33)).alloc (.cells #[] 3)) w2.heap.size 33 [.slice a0 n0 k0, .slice a1 n1 k1, .slice a2 n2 k2, .slice a3 n3 k3] := blkOld _ (blkAt _ _ _ rfl)
  have q : ((w2.alloc (.cells #[.slice a0 n0 k0, .slice a1 n1 k1, .slice a2 n2 k2, .slice a3 n3 k3] 33)).alloc (.cells #[] 3)).ownsRow (w.heap.size + 1) 3 1 (.slice (some ⟨w2.heap.size + 1, 0, none⟩) 0 0) 0 [] := by
    have h9 := own_emptyB (w2.alloc (.cells #[.slice a0 n0 k0, .slice a1 n1 k1, .slice a2 n2 k2, .slice a3 n3 k3] 33)) 3 1 (w.heap.size + 1) (by simp; omega)
    simpa using h9
  have hWay : OnSch w ((w2.alloc (.cells #[.slice a0 n0 k0, .slice a1 n1 k1, .slice a2 n2 k2, .slice a3 n3 k3] 33)).alloc (.cells #[] 3)) p (.slice a n cap) a n cap T w2.heap.size aP capP rows ((a0, n0, k0), (a1, n1, k1), (a2, n2, k2), (a3, n3, k3)) zeroV (.slice (some ⟨w2.heap.size + 1, 0, none⟩) 0 0) [] := ⟨hS2.belowD bA, hC2.below (bA.mono (Nat.le_of_lt hp2)), by simp; omega, hW2.trans (Went.of_below bA), pP2.below bA, pX, hO.below bA, zero_shape, q, ⟨rfl, rfl⟩, hw2, _, _, rfl⟩
  clear bA pX hS2 hC2 hW2 pP2 hO q
  go_wp2_with fail
  generalize ((w2.alloc (.cells #[.slice a0 n0 k0, .slice a1 n1 k1, .slice a2 n2 k2, .slice a3 n3 k3] 33)).alloc (.cells #[] 3)) = W3 at *
  generalize w2.heap.size + 1 = g0 at *
  generalize w2.heap.size = X5 at *
  obtain ⟨hSr, hCd, hpU, hWn, pP, pX, hO, HS, q, HG, hX5, _⟩ := hWay
  refine (next_any p T a n cap 14 W3 hSr hCd (by omega) (by omega)).mono ?_
  rintro e w4 ⟨⟨v, hv, rfl⟩, hSr4, hst⟩
  have hWay : OnSch w w4 p (.slice a n cap) a n cap (T + 3) X5 aP capP rows ((a0, n0, k0), (a1, n1, k1), (a2, n2, k2), (a3, n3, k3)) zeroV (.slice (some ⟨g0, 0, none⟩) 0 0) [] := ⟨hSr4, hCd.went hst (Nat.le_of_lt hpU), Nat.lt_of_lt_of_le hpU hst.size, hWn.trans hst, pP.went hst (by omega), pX.went hst (by omega), hO.went hst (by omega), HS, owns_wn q hst (by omega), HG, hX5, _, _, rfl⟩
  have hv14 : v ≤ 14 := by omega
  clear hSr hCd hpU hWn pP pX hO HS hSr4 hst hv q HG
  go_wp2_with fail
  go_loopw [6, 7] (fun so si wr => ∃ (i TT : Nat) (t : S4) (m : V4) (ks : List Int) (vo : Value), vo = so ∧ si = .int .i64 i ∧ i ≤ 14 ∧ TT ≤ T + 3 + (14 - i) * 3 ∧ ks.length + i ≤ 14 ∧ OnSch w wr p (.slice a n cap) a n cap TT X5 aP capP rows t m vo ks) (fun _ si _ => (intOf si).toNat)
  case atStart => exact ⟨v, T + 3, _, _, [], _, rfl, rfl, hv14, by omega, by simpa using hv14, hWay⟩
  case round =>
    clear hWay hv14
    obtain ⟨i, TT, t, m, ks, so, rfl, rfl, hi, hTT, hki, hSr, hCd, hpU, hWn, pP, pX, hO, HS, q, HG, hX5, hsm⟩ := hrel
    have HSM : Hid (∃ g c, so = .slice (some ⟨g, 0, none⟩) ks.length c) := hsm
    clear hsm
    have hpX : p ≠ X5 := by omega
    obtain ⟨⟨a0, n0, k0⟩, ⟨a1, n1, k1⟩, ⟨a2, n2, k2⟩, ⟨a3, n3, k3⟩⟩ := t
    unfold vmC at pX
    simp only at pX
    have HE : Hid (∀ W, Below wr.heap.size wr W → ∀ v9 : Value, v9 = so → SchGot (.returned v9) W w.heap.size rows ∧ Below p w W) := fun W b v9 e9 => ⟨⟨v9, ks, m, by rw [e9]; exact HSM.out, rfl, by rw [e9]; exact own_lowerB (owns_below q b) (by omega), by omega, HG.out⟩, (hWn.trans (Went.of_below b)).below (Nat.le_of_lt hpw)⟩
    by_cases hi0 : i = 0
    · subst hi0
      have hE := HE.out wr (Below.refl _ _) _ rfl
      clear hSr hCd hWn hO HS pP HE q HG pX
      go_wp2_with fail
      go_ret
      exact hE
    · have hip : (0 : Int) < (i : Int) := by omega
      obtain ⟨_, cs, hR⟩ := (hPr wr (hWn.below (Nat.le_of_lt hpw))).rowsAt HOK.out
      have hM := hO.mem (shape_fits9 HS.out).1
      have kE := l03Enabled_is aP 3 capP rows _ m cs wr rfl hR hM HOK.out HS.out
      have uA : S4.val ((a0, n0, k0), (a1, n1, k1), (a2, n2, k2), (a3, n3, k3)) = .agg #[.slice a0 n0 k0, .slice a1 n1 k1, .slice a2 n2 k2, .slice a3 n3 k3] := rfl
      rw [uA] at kE
      clear uA hM hR
      go_wp2_with (first | refine wpList_load_blk rfl 25 _ rfl w.heap.size rfl pP _ Tryz.underlying25 rfl (by kernel_rfl) ?_ | refine wpList_load_blk rfl 33 _ rfl X5 rfl pX _ Tryz.underlying33 rfl (by kernel_rfl) ?_)
      refine kE.mono ?_
      rintro e w5 ⟨⟨⟨la, ll, lc⟩, rfl, hLi⟩, hb⟩
      clear kE
      have hl : (enabM rows m 3).length = ll := hLi.ints.1
      by_cases hL0 : ll = 0
      · subst hL0
        have hE := HE.out w5 hb _ rfl
        clear hSr hCd hWn hO HS pP HE q HG pX hLi hl hb
        go_wp2_with fail
        go_ret
        exact hE
      have hwr : w.heap.size + 1 ≤ wr.heap.size := pP.lt
      replace hSr := hSr.belowD hb
      replace hCd := hCd.below (hb.mono (Nat.le_of_lt hpU))
      replace hWn := hWn.trans (Went.of_below hb)
      replace pP := pP.below hb
      replace pX := pX.below hb
      replace hO := hO.below hb
      replace q := owns_below q hb
      have hLi2 : OwnI w5 (w.heap.size + 1) (la, ll, lc) (enabM rows m 3) := own_lower hLi hwr
      replace hpU : p < w5.heap.size := Nat.lt_of_lt_of_le hpU hb.size
      clear hb hLi HE hwr
      have hLz : ((ll : Int) == 0) = false := by simp; omega
      have hL3 : ll ≤ 3 := by rw [← hl]; exact enabM_len rows m 3
      obtain ⟨lg, lc2, hsl, _, _⟩ := hLi2.some9 hl (by omega)
      cases hsl
      have HAT : Hid (∀ j, j < ll → ∃ k : Nat, (enabM rows m 3).getD j 0 = k ∧ k < 3 ∧ canM rows m k = true) := fun j hj => enab_at (by omega)
      clear hl
      obtain ⟨es, hes⟩ : ∃ es, es = enabM rows m 3 := ⟨_, rfl⟩
      rw [← hes] at HAT hLi2
      clear hes
      go_wp2_with fail
      refine (next_any p TT a n cap (ll : Int) w5 hSr hCd (by omega) (by omega)).mono ?_
      rintro e w6 ⟨⟨v, hv, rfl⟩, hSn, hst⟩
      have hvl : v < ll := by omega
      have hvi : (v : Int) < (ll : Int) := by omega
      have hv0 : (0 : Int) ≤ (v : Int) := by omega
      obtain ⟨kk, hkk, hk3, hcan⟩ := HAT.out v hvl
      have HCN : Hid (canM rows m kk = true) := hcan
      replace hSr := hSn
      replace hCd := hCd.went hst (Nat.le_of_lt hpU)
      replace hpU : p < w6.heap.size := Nat.lt_of_lt_of_le hpU hst.size
      replace hWn := hWn.trans hst
      replace pP := pP.went hst (by omega)
      replace pX := pX.went hst (by omega)
      replace hO := hO.went hst (by omega)
      replace q := owns_wn q hst (by omega)
      replace hLi2 := hLi2.went hst (by omega)
      have hcv := hLi2.at9 hvl
      rw [hkk] at hcv
      clear hst hSn hv hcan HAT hkk hLi2 hLz
      obtain ⟨_, cs, hR⟩ := (hPr w6 (hWn.below (Nat.le_of_lt hpw))).rowsAt HOK.out
      have hM := hO.mem (shape_fits9 HS.out).1
      have hsh := shape_step HOK.out HS.out hk3 (can_parts HCN.out).1
      have kT := l03Step_is (cap := capP) rfl hR hM HOK.out HS.out hk3 (can_parts HCN.out).1
      have HG2 : Hid (goesTo rows (ks ++ [(kk : Int)]) (stepM m (insM rows m kk) kk).1) := HG.out.snoc hk3 HCN.out
      have uA : S4.val ((a0, n0, k0), (a1, n1, k1), (a2, n2, k2), (a3, n3, k3)) = .agg #[.slice a0 n0 k0, .slice a1 n1 k1, .slice a2 n2 k2, .slice a3 n3 k3] := rfl
      rw [uA] at kT
      generalize (stepM m (insM rows m kk) kk).1 = mm at *
      generalize (stepM m (insM rows m kk) kk).2 = fd at *
      have HS2 : Hid (shapeOk mm = true) := hsh
      clear hM hR uA hsh HCN HG HS
      go_wp2_with (first | refine wpList_load_blk rfl 25 _ rfl w.heap.size rfl pP _ Tryz.underlying25 rfl (by kernel_rfl) ?_ | refine wpList_load_blk rfl 33 _ rfl X5 rfl pX _ Tryz.underlying33 rfl (by kernel_rfl) ?_)
      refine kT.mono ?_
      rintro e w7 ⟨⟨⟨⟨b0, m0, q0⟩, ⟨b1, m1, q1⟩, ⟨b2, m2, q2⟩, ⟨b3, m3, q3⟩⟩, rfl, hO2⟩, hb⟩
      have uC : S4.val ((b0, m0, q0), (b1, m1, q1), (b2, m2, q2), (b3, m3, q3)) = .agg #[.slice b0 m0 q0, .slice b1 m1 q1, .slice b2 m2 q2, .slice b3 m3 q3] := rfl
      rw [uC]
      clear uC kT hcv
      have hN6 : w.heap.size + 1 ≤ w6.heap.size := pP.lt
      have hqlt : ∀ j, so.ownBlock = some j → j < w6.heap.size := fun j hj => (q.lt j hj).2
      have bA : Below w7.heap.size w7 (w7.alloc (.cells #[.slice b0 m0 q0, .slice b1 m1 q1, .slice b2 m2 q2, .slice b3 m3 q3] 33)) := by go_grown
      have pY : Blk (w7.alloc (.cells #[.slice b0 m0 q0, .slice b1 m1 q1, .slice b2 m2 q2, .slice b3 m3 q3] 33)) w7.heap.size 33 [.slice b0 m0 q0, .slice b1 m1 q1, .slice b2 m2 q2, .slice b3 m3 q3] := blkAt _ _ _ rfl
      have b67 := bel_trans hb bA
      replace hSr := hSr.belowD b67
      replace hCd := hCd.below (b67.mono (Nat.le_of_lt hpU))
      replace hWn := hWn.trans (Went.of_below b67)
      replace pP := pP.below b67
      replace pX := pX.below b67
      replace q := owns_below q b67
      replace hO2 := hO2.below bA
      replace hpU : p < (w7.alloc (.cells #[.slice b0 m0 q0, .slice b1 m1 q1, .slice b2 m2 q2, .slice b3 m3 q3] 33)).heap.size := Nat.lt_of_lt_of_le hpU b67.size
      clear b67 bA hb hO
      go_wp2_with (first | refine wpList_load_blk rfl 33 _ rfl w7.heap.size rfl pY _ Tryz.underlying33 rfl (by kernel_rfl) ?_ | refine wpList_store_blk rfl 33 _ _ rfl X5 [.slice b0 m0 q0, .slice b1 m1 q1, .slice b2 m2 q2, .slice b3 m3 q3] rfl rfl pX (by kernel_rfl) rfl rfl ?_)
      intro w9 pX9 g9
      have hne2 : X5 ≠ w.heap.size := by omega
      replace hSr := hSr.grown g9 (fun k e => by cases e; omega)
      replace hCd := hCd.below (grown_below g9 (show p ≤ X5 by omega) (Nat.le_of_lt hpU))
      replace hpU : p < w9.heap.size := Nat.lt_of_lt_of_le hpU g9.size
      replace hWn := hWn.grown g9 (fun k e => by cases e; omega)
      replace pP := pP.kept g9 (fun e => hne2 (by cases e; rfl))
      replace hO2 := hO2.kept9 g9 pX (by decide)
      replace q := q.kept g9 (own_apart_blk q pX (by decide))
      have pX := pX9.out
      clear g9 pX9 pY
      have hln : ks.length ≤ 14 := by omega
      have ha : Below w9.heap.size w9 (w9.alloc (.cells #[.int .i64 (kk : Int)] 3)) := by go_grown
      have hw9 : w.heap.size + 1 ≤ w9.heap.size := pP.lt
      go_wp2_with (at_builtin; refine wpList_append_own _ rfl _ _ 27 rfl (w.heap.size + 1) 3 i0 (.int .i64 0) 1 8 Tryz.underlying27 hi9 hz0 hz1 hz2 rfl (by decide) _ _ _ rfl (q.alloc _) ⟨w9.heap.size, 0, none⟩ 1 1 [.int .i64 (kk : Int)] rfl rfl (cell_one_new _ _ _) (by simp [Value.oneCell']) ?c3 ?c4 ?c5 ?_)
      case c3 => unfold maxLen; omega
      case c4 => omega
      case c5 => simp; omega
      intro v9 wn q9 g9 _
      have hne : ∀ j, so.ownBlock = some j → w.heap.size + 1 ≤ j := fun j hj => (q.lt j hj).1
      have R : wn.ownsRow (w.heap.size + 1) 3 1 v9 (ks ++ [(kk : Int)]).length ((ks ++ [(kk : Int)]).map (Value.int .i64)) := by
        rw [List.length_append, List.map_append]
        exact q9
      have hsm2 := own_someB R (by rw [List.length_append]; simp)
      have hWay : OnSch w wn p (.slice a n cap) a n cap (TT + 3) X5 aP capP rows ((b0, m0, q0), (b1, m1, q1), (b2, m2, q2), (b3, m3, q3)) mm v9 (ks ++ [(kk : Int)]) := ⟨(hSr.belowD ha).grown g9 (fun k e => by have := hne k e; omega), (hCd.below (ha.mono (Nat.le_of_lt hpU))).below (below_growS g9 (fun k e => by have := hne k e; omega) (by have := ha.size; omega)), Nat.lt_of_lt_of_le hpU (Nat.le_trans ha.size g9.size), (hWn.trans (Went.of_below ha)).grown g9 (fun k e => by have := hne k e; omega), (pP.below ha).kept g9 (fun e => by have := hne _ e; omega), (pX.below ha).kept g9 (fun e => own_apart_ne q pX (by decide) e), OwnV.kept_ltS (hO2.below ha) g9 hqlt hN6 (Nat.le_refl _), HS2, R, HG2, hX5, hsm2⟩
      clear q9 g9 R hsm2 hSr hCd hpU hWn pP pX hO2 HS2 HG2 q ha hne hqlt
      go_wp2
      go_roundw
      case rel => exact ⟨i - 1, TT + 3, _, mm, ks ++ [(kk : Int)], _, rfl, by go_num, by omega, by omega, by rw [List.length_append]; simp; omega, hWay⟩
      case measure => simp [intOf]; omega
end Go.Proofs.YtmhngodbnoonhaaGreatDoor


/-
  The specification's ScheduleDrawn.
-/
namespace Go.Proofs.YtmhngodbnoonhaaGreatDoor
open Go.RowKit
set_option linter.unusedVariables false
set_option linter.unusedSimpArgs false

set_option maxHeartbeats 1000000 in
set_option maxRecDepth 100000 in
theorem scheduleDrawn_any (a : Option Addr) (n cap : Nat) (zs : List Int) (aP : Option Addr) (capP : Nat) (rows : List (List I3)) (w : World) (hI : IsRow .u8 w a n cap zs) (hn : n ≤ 1048576) (hP : Codes w aP 3 capP rows) (hok : progOk rows = true) :
    Calls Tryz.prog 7 #[.slice a n cap, .agg #[.slice aP 3 capP]] w fun e w' => SchGot e w' w.heap.size rows ∧ Below w.heap.size w w' := by
  have hCo := code_of hI hn
  have bw : Below w.heap.size w (w.alloc (.cells #[.slice aP 3 capP] 25)) := by go_grown
  have pP : Blk (w.alloc (.cells #[.slice aP 3 capP] 25)) w.heap.size 25 [.slice aP 3 capP] := blkAt _ _ _ rfl
  go_enter Tryz.func7, Tryz.ntmps7
  go_wp2_with fail
  have hX : w.heap.size < (w.alloc (.cells #[.slice aP 3 capP] 25)).heap.size := pP.lt
  generalize (w.alloc (.cells #[.slice aP 3 capP] 25)) = W1 at *
  have bw1 := bw
  have cP : W1.cell? ⟨w.heap.size, 0, none⟩ = some (.slice aP 3 capP) := pP.cell 0
  refine wp_region_held_drew (S := (fun w' => w'.cell? ⟨w.heap.size, 0, none⟩ = some (.slice aP 3 capP))) (by kernel_rfl) cP (fun hS0 => ?_)
  refine wpAnyH_take (i := 0) (oi := { dst := some 5, op := _, type := _, pos := _, after := _, guard := _ }) (v := (.slice a n cap)) rfl (by kernel_rfl) (by kernel_rfl) (by kernel_rfl) (fun _ _ _ h => h) (Or.inl ⟨by rfl, ?_⟩) (by assumption) ?_
  · (intro w' hSw; (try dsimp only at hSw); go_simp; try rfl)
  simp only [Act.put, List.setIfInBounds_toArray, List.set_cons_zero, List.set_cons_succ]
  refine wpAnyH_take (i := 2) (oi := { dst := some 7, op := _, type := _, pos := _, after := _, guard := _ }) (v := (.agg #[.slice aP 3 capP])) rfl (by kernel_rfl) (by kernel_rfl) (by kernel_rfl) (fun _ _ _ h => h) (Or.inl ⟨by rfl, ?_⟩) (by assumption) ?_
  · (intro w' hSw; (try dsimp only at hSw); go_simp; try rfl)
  simp only [Act.put, List.setIfInBounds_toArray, List.set_cons_zero, List.set_cons_succ]
  refine wpAnyH_ready (rs := [1]) (by kernel_rfl) (by simp) ?_
  refine AllReadyH.cons (o := { dst := some 6, op := _, type := _, pos := _, after := _, guard := _ }) rfl (fun K hK => ?_) AllReadyH.nil
  go_simp
  refine (l00Source_any a n cap W1.drew hn).mono ?_
  rintro e w2 ⟨rfl, hS, hb⟩
  replace hS : Src w2 W1.heap.size (.slice a n cap) 0 := hS
  replace hb : Below W1.heap.size W1 w2 := ⟨hb.os, hb.tape, hb.output, hb.size, hb.block⟩
  have hpl : W1.heap.size < w2.heap.size := hS.lt
  have hCd : Code w2 W1.heap.size a n cap := by
    obtain ⟨zs', q1, q2, q3, q4⟩ := hCo
    exact ⟨zs', q1.below (bel_trans bw hb), q2, q3, fun x hx h0 => by have := q4 x hx h0; have := bw.size; omega⟩
  replace bw := bel_trans bw hb
  replace pP := pP.below hb
  have hPr : ∀ W, Below W1.heap.size w2 W → Codes W aP 3 capP rows := fun W h => (hP.below bw1).below (hb.trans h)
  have cP2 : w2.cell? ⟨w.heap.size, 0, none⟩ = some (.slice aP 3 capP) := pP.cell 0
  go_wp2_with fail
  refine hK.out _ _ cP2 (fun hS1 => ?_)
  clear hK
  try simp only [Act.put, List.setIfInBounds_toArray, List.set_cons_zero, List.set_cons_succ]
  refine wpAnyH_ready (rs := [3]) (by kernel_rfl) (by simp) ?_
  refine AllReadyH.cons (o := { dst := some 8, op := _, type := _, pos := _, after := _, guard := _ }) rfl (fun K hK => ?_) AllReadyH.nil
  go_simp
  refine (schedule_any W1.heap.size 0 a n cap aP capP rows w2 hS hCd (by omega) hok hPr).mono ?_
  rintro e w3 ⟨⟨v, ks, m, hsm, rfl, q, hl, hg⟩, hb3⟩
  have cP3 : w3.cell? ⟨w.heap.size, 0, none⟩ = some (.slice aP 3 capP) := (pP.belowB hb3 (by omega)).cell 0
  have hw2 : w.heap.size ≤ w2.heap.size := bw.size
  replace bw : Below w.heap.size w w3 := bw.trans (hb3.mono (by omega))
  go_wp2_with fail
  refine hK.out _ _ cP3 (fun hS2 => ?_)
  clear hK
  try simp only [Act.put, List.setIfInBounds_toArray, List.set_cons_zero, List.set_cons_succ]
  refine wpAnyH_take (i := 4) (oi := { dst := some 4, op := _, type := _, pos := _, after := _, guard := _ }) (v := v) rfl (by kernel_rfl) (by kernel_rfl) (by kernel_rfl) (fun _ _ _ h => h) (Or.inl ⟨by rfl, ?_⟩) (by assumption) ?_
  · (intro w' hSw; (try dsimp only at hSw); go_simp; try rfl)
  simp only [Act.put, List.setIfInBounds_toArray, List.set_cons_zero, List.set_cons_succ]
  refine wpAnyH_done (by kernel_rfl) ?_ _
  have hG : SchGot (.returned v) w3 w.heap.size rows := ⟨v, ks, m, hsm, rfl, own_lowerB q hw2, hl, hg⟩
  clear hS hCd hPr pP hS0 hS1 hS2 cP2 cP3 q hsm
  go_wp2_with fail
  go_ret
  exact ⟨hG, bw⟩
end Go.Proofs.YtmhngodbnoonhaaGreatDoor


/-
  slices.Contains at bugs.
-/
namespace Go.Proofs.YtmhngodbnoonhaaGreatDoor
open Go.RowKit
set_option linter.unusedVariables false
set_option linter.unusedSimpArgs false

def hasW : List I3 → I3 → Bool
  | [], _ => false
  | y :: l, x => decide (y = x) || hasW l x
theorem hasW_iff {x : I3} : ∀ {l : List I3}, hasW l x = true ↔ x ∈ l
  | [] => by simp [hasW]
  | y :: l => by
    have h := hasW_iff (x := x) (l := l)
    show (decide (y = x) || hasW l x) = true ↔ _
    rw [Bool.or_eq_true, h, List.mem_cons, decide_eq_true_iff]
    exact or_congr ⟨Eq.symm, Eq.symm⟩ Iff.rfl
theorem hasW_step {xs : List I3} {k : Nat} (hk : k < xs.length) (y : I3) : hasW (xs.drop k) y = (decide (xs.getD k (0, 0, 0) = y) || hasW (xs.drop (k + 1)) y) := by
  rw [List.drop_eq_getElem_cons hk]
  simp [hasW, List.getD, List.getElem?_eq_getElem hk]
theorem below_dNW {w W : World} (h : Below w.heap.size w W) (d : Nat) : Below w.heap.size w (W.drewN d) := bel_trans h (below_dN d)
/-- An index, or below nought where it is not there. -/
def IdxW (e : Ending) (b : Bool) : Prop := ∃ r : Int, e = .returned (.int .i64 r) ∧ decide (0 ≤ r) = b

end Go.Proofs.YtmhngodbnoonhaaGreatDoor


/-
  Both sides' IsWitness.
-/
namespace Go.Proofs.YtmhngodbnoonhaaGreatDoor
open Go.RowKit
set_option linter.unusedVariables false
set_option linter.unusedSimpArgs false

/-- What IsWitness tells. -/
def witV (rows : List (List I3)) (ks : List Int) (y : I3) : Bool := if 4096 < ks.length then false else if progOk rows && okB y then decide (runC rows ks = 0) && hasW (runF rows ks) y else false
def witC (rows : List (List I3)) (ks : List Int) (y : I3) : Int := if 4096 < ks.length then 2 else if progOk rows && okB y then 0 else 1
theorem runS_runI (rows : List (List I3)) (ks : List Int) : runS rows zeroV [] ks = ((runI rows zeroV [] ks).1, mergeB (runI rows zeroV [] ks).2.1 (deadM rows (runI rows zeroV [] ks).1), (runI rows zeroV [] ks).2.2) := by
  have h0 : ([] : List I3) = mergeB [] (deadM rows zeroV) := by unfold deadM; rw [stuck_zero]; rfl
  obtain ⟨h1, h2, h3⟩ := run_same (rows := rows) ks zeroV [] [] h0
  rw [← h1, ← h2] at *
  exact Prod.ext h1 (Prod.ext h3 rfl)
theorem runF_ok (rows : List (List I3)) (ks : List Int) : (∀ x ∈ runF rows ks, okB x = true) ∧ (runF rows ks).length ≤ 5000 := by
  unfold runF
  split
  · simp
  · split
    · rename_i h1 h2
      have a := runI_ok h2 ks zeroV [] zero_shape (by simp)
      have b := runI_len (rows := rows) ks zeroV []
      have c := mergeB_len (runI rows zeroV [] ks).2.1 (deadM rows (runI rows zeroV [] ks).1)
      have d : (deadM rows (runI rows zeroV [] ks).1).length ≤ 1 := by unfold deadM; split <;> simp
      refine ⟨mergeB_ok a.2 (deadM_ok _ _), ?_⟩
      simp at b
      omega
    · simp

end Go.Proofs.YtmhngodbnoonhaaGreatDoor


/-
  What FnRun asks, in plain words.
-/
namespace Go.Proofs.YtmhngodbnoonhaaGreatDoor
open Go.RowKit
set_option linter.unusedVariables false

theorem goes_run {rows : List (List I3)} {ks : List Int} {m : V4} (hp : progOk rows = true) (h : goesTo rows ks m) (hl : ks.length ≤ 14) : runZ rows ks = m ∧ runC rows ks = 0 ∧ shapeOk m = true := by
  obtain ⟨h1, h2⟩ := h
  have h9 : ¬ 4096 < ks.length := by omega
  unfold runZ runC
  simp only [if_neg h9, if_pos hp]
  refine ⟨h2, h1, ?_⟩
  rw [← h2]
  exact (runI_ok hp ks zeroV [] zero_shape (by simp)).1
theorem goes_beyond {rows : List (List I3)} {ks : List Int} {m : V4} (hp : progOk rows = true) (h : goesTo rows ks m) (hl : ks.length ≤ 14) : runC rows (ks ++ [3]) = 4 := by
  obtain ⟨h1, h2⟩ := h
  unfold runC
  rw [if_neg (by rw [List.length_append]; simp; omega), if_pos hp, runI_snoc rows 3 ks zeroV [] h1]
  have hz : haltM rows (runI rows zeroV [] ks).1 3 = 4 := by unfold haltM; rw [if_neg (by omega)]
  show (if haltM rows (runI rows zeroV [] ks).1 3 = 0 then _ else _ : V4 × List I3 × Int).2.2 = 4
  rw [if_neg (by rw [hz]; decide)]
  exact hz
theorem goes_witness {rows : List (List I3)} {ks : List Int} {m : V4} {y : I3} (hp : progOk rows = true) (h : goesTo rows ks m) (hl : ks.length ≤ 14) (hy : y ∈ runF rows ks) : witV rows ks y = true ∧ witC rows ks y = 0 := by
  have hc := (goes_run hp h hl).2.1
  have ho := (runF_ok rows ks).1 y hy
  have h9 : ¬ 4096 < ks.length := by omega
  unfold witV witC
  rw [hp, ho, hc]
  simp only [if_neg h9]
  simp only [Bool.and_self, if_true, decide_true, Bool.true_and, and_true]
  exact hasW_iff.2 hy
theorem halt_step {rows : List (List I3)} {m : V4} {k : Int} (hp : progOk rows = true) (hs : shapeOk m = true) (hz : haltM rows m k = 0) : stepZ rows m k = (goM rows m k).1 ∧ stepC rows m k = 0 := by
  obtain ⟨h0, h2, hd, hc⟩ := halt_can hz
  have hk3 : (0 : Int) ≤ k ∧ k < 3 := by omega
  unfold stepZ stepC goM
  simp only [hp, hs, Bool.and_self, if_true, hk3, and_self, hd, hc]
theorem getD_memF {xs : List I3} {k : Nat} (hk : k < xs.length) : xs.getD k (0, 0, 0) ∈ xs := by
  simp only [List.getD, List.getElem?_eq_getElem hk, Option.getD_some]
  exact List.getElem_mem hk
end Go.Proofs.YtmhngodbnoonhaaGreatDoor


/-
  The specification's SameVm: both have their shape, and their keys are one.
-/
namespace Go.Proofs.YtmhngodbnoonhaaGreatDoor
open Go.RowKit

/-- What SameVm answers. -/
def sameV (m q : V4) : Bool := shapeOk m && (shapeOk q && ((keyT m).toList == (keyT q).toList))

end Go.Proofs.YtmhngodbnoonhaaGreatDoor


/-
  impl.SameVm: slices.Equal at integers; keys tell states apart; FnExactSameVm's other side.
-/
namespace Go.Proofs.YtmhngodbnoonhaaGreatDoor
open Go.RowKit

theorem digit_inj {a b : Int} (ha : 0 ≤ a ∧ a ≤ 9) (hb : 0 ≤ b ∧ b ≤ 9) (h : UInt8.ofNat (48 + a).toNat = UInt8.ofNat (48 + b).toNat) : a = b := by
  have := congrArg UInt8.toNat h
  rw [UInt8.toNat_ofNat', UInt8.toNat_ofNat'] at this
  omega
theorem digits_inj : ∀ {xs ys : List Int}, (∀ z ∈ xs, 0 ≤ z ∧ z ≤ 9) → (∀ z ∈ ys, 0 ≤ z ∧ z ≤ 9) → (xs.map fun z => 48 + z).map (fun n : Int => UInt8.ofNat n.toNat) = (ys.map fun z => 48 + z).map (fun n : Int => UInt8.ofNat n.toNat) → xs = ys
  | [], [], _, _, _ => rfl
  | [], _ :: _, _, _, h => by simp at h
  | _ :: _, [], _, _, h => by simp at h
  | x :: xs, y :: ys, hx, hy, h => by
    simp only [List.map_cons, List.cons.injEq] at h
    rw [digit_inj (hx x (by simp)) (hy y (by simp)) h.1, digits_inj (fun z hz => hx z (by simp [hz])) (fun z hz => hy z (by simp [hz])) h.2]
theorem keyT_inj {m q : V4} (hm : shapeOk m = true) (hq : shapeOk q = true) (h : (keyT m).toList = (keyT q).toList) : m = q := by
  obtain ⟨l0, l1, l2, l3, d⟩ := shape_parts hm
  obtain ⟨k0, k1, k2, k3, e⟩ := shape_parts hq
  have hall : allOf m = allOf q := by
    refine digits_inj d e ?_
    rw [ByteArray.toList_eq, ByteArray.toList_eq] at h
    exact h
  unfold allOf at hall
  obtain ⟨h1, e3⟩ := List.append_inj hall (by simp; omega)
  obtain ⟨h2, e2⟩ := List.append_inj h1 (by simp; omega)
  obtain ⟨e0, e1⟩ := List.append_inj h2 (by omega)
  obtain ⟨a, b, c, f⟩ := m
  obtain ⟨a', b', c', f'⟩ := q
  simp only at e0 e1 e2 e3
  rw [e0, e1, e2, e3]
theorem sameV_eq (m q : V4) : sameV m q = (shapeOk m && (shapeOk q && decide (m = q))) := by
  unfold sameV
  cases hm : shapeOk m
  · rfl
  cases hq : shapeOk q
  · rfl
  by_cases h : m = q
  · subst h; simp
  · have : ¬ (keyT m).toList = (keyT q).toList := fun e => h (keyT_inj hm hq e)
    simp [h, this]

theorem bel_dN (w : World) (n : Nat) : Below w.heap.size w (w.drewN n) := ⟨rfl, rfl, rfl, Nat.le_refl _, fun _ _ => rfl⟩

set_option maxHeartbeats 1000000 in
set_option maxRecDepth 100000 in
theorem equalI_is (a a' : Option Addr) (len cap cap' : Nat) (xs ys : List Int) (w : World) (h : Ints .i64 w a len cap xs) (h' : Ints .i64 w a' len cap' ys) (hpos : len ≠ 0) :
    Calls Tryz.prog 42 #[.slice a len cap, .slice a' len cap'] w fun e w' => e = .returned (.bool (decide (xs = ys))) ∧ Below w.heap.size w w' := by
  obtain ⟨hl, hlc, hcm, hcase⟩ := h
  obtain ⟨hl', hlc', hcm', hcase'⟩ := h'
  unfold maxLen at hcm hcm'
  rcases hcase with h0' | ⟨b, off, rfl, hblt, hcell⟩
  · exact absurd h0' hpos
  rcases hcase' with h0' | ⟨b', off', rfl, hblt', hcell'⟩
  · exact absurd h0' hpos
  have hne : ((len : Int) != (len : Int)) = false := by simp
  obtain ⟨fin, hfin⟩ : ∃ fin, fin = decide (xs = ys) := ⟨_, rfl⟩
  rw [← hfin]
  have HF : Hid (fin = decide (xs = ys)) := hfin
  clear hfin
  go_enter Tryz.func42, Tryz.ntmps42
  go_wp2
  go_loopw [13] (fun si wr => ∃ (k : Nat), k ≤ len ∧ si = .int .i64 k ∧ Hid (xs.take k = ys.take k) ∧ Below w.heap.size w wr) (fun si _ => len - (intOf si).toNat)
  case atStart => exact ⟨0, by omega, rfl, by simp [Hid], Below.refl _ _⟩
  case round =>
    obtain ⟨k, hk, rfl, hH', hbel⟩ := hrel
    by_cases hlt : k < len
    · have c0 := hcell k hlt
      have e0 := hcell' k hlt
      rw [← hbel.cell (p := ⟨b, _, none⟩) hblt] at c0
      rw [← hbel.cell (p := ⟨b', _, none⟩) hblt'] at e0
      have hlt' : (k : Int) < (len : Int) := by omega
      have hk0 : (0 : Int) ≤ (k : Int) := by omega
      have hxg : Hid (xs.getD k 0 = xs[k]'(by omega) ∧ ys.getD k 0 = ys[k]'(by omega)) := ⟨by simp [List.getD, hl, hlt], by simp [List.getD, hl', hlt]⟩
      by_cases hxy : xs.getD k 0 = ys.getD k 0
      · have hH2 : Hid (xs.take (k + 1) = ys.take (k + 1)) := by
          rw [Hid, List.take_succ_eq_append_getElem (by omega), List.take_succ_eq_append_getElem (by omega), hH'.out, ← hxg.out.1, ← hxg.out.2, hxy]
        rw [← hxy] at e0
        clear hcell hcell' hxg hxy hH'
        generalize xs.getD k 0 = x at c0 e0
        have hxx : (x != x) = false := by simp
        go_wp2_with fail
        go_quiet (fail)
        have hb2 : Below w.heap.size w (wr.drewN nq) := bel_trans hbel (bel_dN _ _)
        go_wp2
        go_roundw
        case rel => exact ⟨k + 1, by omega, by go_num, hH2, hb2⟩
        case measure => simp [intOf]; omega
      · obtain rfl : fin = false := by
          rw [HF.out, decide_eq_false_iff_not]
          intro h
          subst h
          exact hxy rfl
        clear hcell hcell' hxg hH' HF
        generalize xs.getD k 0 = x at c0 hxy
        generalize ys.getD k 0 = y at e0 hxy
        have hxx : (x != y) = true := by simp [hxy]
        have hb2 : ∀ nq, Below w.heap.size w (wr.drewN nq) := fun nq => bel_trans hbel (bel_dN _ _)
        go_wp2_with fail
        go_quiet (fail)
        go_wp2
        go_ret
        exact ⟨rfl, hb2 _⟩
    · obtain rfl : k = len := by omega
      obtain rfl : fin = true := by
        rw [HF.out, decide_eq_true_eq]
        have h9 := hH'.out
        rwa [List.take_of_length_le (by omega), List.take_of_length_le (by omega)] at h9
      clear hcell hcell' hH' HF
      go_wp2
      go_ret
      exact ⟨rfl, hbel⟩

set_option maxHeartbeats 8000000 in
set_option maxRecDepth 100000 in
theorem implSameVm_is (s : S4) (m : V4) (t : S4) (q : V4) (w : World) (hA : Vmem w s m) (hB : Vmem w t q) (hV : VmShape w) :
    Calls Tryz.prog 14 #[s.val, t.val] w fun e w' => e = .returned (.bool (sameV m q)) ∧ Below w.heap.size w w' := by
  have kA := fun w h => right_is s m w h
  have kB := fun w h => right_is t q w h
  have kLA := fun w => lists_is s w
  have kLB := fun w => lists_is t w
  have hMA := fun (W : World) (hb : Below w.heap.size w W) => hA.below hb
  have hMB := fun (W : World) (hb : Below w.heap.size w W) => hB.below hb
  rw [sameV_eq]
  have hpA := fun h : shapeOk m = true => shape_parts h
  have hpB := fun h : shapeOk q = true => shape_parts h
  obtain ⟨⟨i0, _⟩, ⟨i1, _⟩, ⟨i2, _⟩, ⟨i3, _⟩⟩ := hA
  obtain ⟨⟨j0, _⟩, ⟨j1, _⟩, ⟨j2, _⟩, ⟨j3, _⟩⟩ := hB
  obtain ⟨⟨a0, n0, c0⟩, ⟨a1, n1, c1⟩, ⟨a2, n2, c2⟩, ⟨a3, n3, c3⟩⟩ := s
  obtain ⟨⟨b0, k0, d0⟩, ⟨b1, k1, d1⟩, ⟨b2, k2, d2⟩, ⟨b3, k3, d3⟩⟩ := t
  have uA : S4.val ((a0, n0, c0), (a1, n1, c1), (a2, n2, c2), (a3, n3, c3)) = .agg #[.slice a0 n0 c0, .slice a1 n1 c1, .slice a2 n2 c2, .slice a3 n3 c3] := rfl
  have uB : S4.val ((b0, k0, d0), (b1, k1, d1), (b2, k2, d2), (b3, k3, d3)) = .agg #[.slice b0 k0 d0, .slice b1 k1 d1, .slice b2 k2 d2, .slice b3 k3 d3] := rfl
  rw [uA] at kA kLA
  rw [uB] at kB kLB
  rw [uA, uB]
  clear uA uB
  have bw : Below w.heap.size w ((w.alloc (.cells #[.slice a0 n0 c0, .slice a1 n1 c1, .slice a2 n2 c2, .slice a3 n3 c3] 33)).alloc (.cells #[.slice b0 k0 d0, .slice b1 k1 d1, .slice b2 k2 d2, .slice b3 k3 d3] 33)) := by go_grown
  have pA : Blk ((w.alloc (.cells #[.slice a0 n0 c0, .slice a1 n1 c1, .slice a2 n2 c2, .slice a3 n3 c3] 33)).alloc (.cells #[.slice b0 k0 d0, .slice b1 k1 d1, .slice b2 k2 d2, .slice b3 k3 d3] 33)) w.heap.size 33 [.slice a0 n0 c0, .slice a1 n1 c1, .slice a2 n2 c2, .slice a3 n3 c3] := (Blk.new w _ [.slice a0 n0 c0, .slice a1 n1 c1, .slice a2 n2 c2, .slice a3 n3 c3]).below (by go_grown)
  have pB : Blk ((w.alloc (.cells #[.slice a0 n0 c0, .slice a1 n1 c1, .slice a2 n2 c2, .slice a3 n3 c3] 33)).alloc (.cells #[.slice b0 k0 d0, .slice b1 k1 d1, .slice b2 k2 d2, .slice b3 k3 d3] 33)) (w.heap.size + 1) 33 [.slice b0 k0 d0, .slice b1 k1 d1, .slice b2 k2 d2, .slice b3 k3 d3] := by
    have h9 := Blk.new (w.alloc (.cells #[.slice a0 n0 c0, .slice a1 n1 c1, .slice a2 n2 c2, .slice a3 n3 c3] 33)) 33 [.slice b0 k0 d0, .slice b1 k1 d1, .slice b2 k2 d2, .slice b3 k3 d3]
    rwa [World.size_alloc] at h9
  cases hx : shapeOk m
  · rw [hx] at kA
    go_enter Tryz.func14, Tryz.ntmps14
    go_wp2_with fail
    refine (kA _ (hMA _ bw) (hV.below bw)).mono ?_
    rintro e w1 ⟨rfl, hb⟩
    replace bw := bel_trans bw hb
    go_wp2
    go_ret
    exact ⟨rfl, bw⟩
  rw [hx] at kA
  cases hy : shapeOk q
  · rw [hy] at kB
    go_enter Tryz.func14, Tryz.ntmps14
    go_wp2_with fail
    refine (kA _ (hMA _ bw) (hV.below bw)).mono ?_
    rintro e w1 ⟨rfl, hb⟩
    replace bw := bel_trans bw hb
    replace pB := pB.below hb
    have g0 := pB.cell 0
    have g1 := pB.cell 1
    have g2 := pB.cell 2
    have g3 := pB.cell 3
    simp at g0 g1 g2 g3
    go_wp2_with fail
    refine (kB _ (hMB _ bw) (hV.below bw)).mono ?_
    rintro e w2 ⟨rfl, hb2⟩
    replace bw := bel_trans bw hb2
    clear g0 g1 g2 g3
    go_wp2
    go_ret
    exact ⟨rfl, bw⟩
  rw [hy] at kB
  obtain ⟨l0, l1, l2, l3, _⟩ := hpA hx
  obtain ⟨r0, r1, r2, r3, _⟩ := hpB hy
  obtain ⟨m0, m1, m2, m3⟩ := m
  obtain ⟨q0, q1, q2, q3⟩ := q
  simp only at i0 i1 i2 i3 j0 j1 j2 j3 l0 l1 l2 l3 r0 r1 r2 r3
  obtain rfl : n0 = 3 := i0.1.symm.trans l0
  obtain rfl : n1 = 4 := i1.1.symm.trans l1
  obtain rfl : n2 = 2 := i2.1.symm.trans l2
  obtain rfl : n3 = 6 := i3.1.symm.trans l3
  obtain rfl : k0 = 3 := j0.1.symm.trans r0
  obtain rfl : k1 = 4 := j1.1.symm.trans r1
  obtain rfl : k2 = 2 := j2.1.symm.trans r2
  obtain rfl : k3 = 6 := j3.1.symm.trans r3
  have z0 := fun (W : World) (hb : Below w.heap.size w W) => equalI_is a0 b0 3 c0 d0 m0 q0 W (i0.below hb) (j0.below hb) (by decide)
  have z1 := fun (W : World) (hb : Below w.heap.size w W) => equalI_is a1 b1 4 c1 d1 m1 q1 W (i1.below hb) (j1.below hb) (by decide)
  have z2 := fun (W : World) (hb : Below w.heap.size w W) => equalI_is a2 b2 2 c2 d2 m2 q2 W (i2.below hb) (j2.below hb) (by decide)
  have z3 := fun (W : World) (hb : Below w.heap.size w W) => equalI_is a3 b3 6 c3 d3 m3 q3 W (i3.below hb) (j3.below hb) (by decide)
  have hfin : decide ((m0, m1, m2, m3) = (q0, q1, q2, q3)) = (decide (m0 = q0) && (decide (m1 = q1) && (decide (m2 = q2) && decide (m3 = q3)))) := by
    simp only [Prod.mk.injEq, Bool.decide_and]
  rw [hfin]
  clear hfin i0 i1 i2 i3 j0 j1 j2 j3 l0 l1 l2 l3 r0 r1 r2 r3 hpA hpB
  generalize decide (m0 = q0) = x0 at *
  generalize decide (m1 = q1) = x1 at *
  generalize decide (m2 = q2) = x2 at *
  generalize decide (m3 = q3) = x3 at *
  have y0 := idx4_0 (.slice a0 3 c0) (.slice a1 4 c1) (.slice a2 2 c2) (.slice a3 6 c3)
  have y1 := idx4_1 (.slice a0 3 c0) (.slice a1 4 c1) (.slice a2 2 c2) (.slice a3 6 c3)
  have y2 := idx4_2 (.slice a0 3 c0) (.slice a1 4 c1) (.slice a2 2 c2) (.slice a3 6 c3)
  have y3 := idx4_3 (.slice a0 3 c0) (.slice a1 4 c1) (.slice a2 2 c2) (.slice a3 6 c3)
  go_enter Tryz.func14, Tryz.ntmps14
  go_wp2_with fail
  refine (kA _ (hMA _ bw) (hV.below bw)).mono ?_
  rintro e w1 ⟨rfl, hb⟩
  replace bw := bel_trans bw hb
  replace pA := pA.below hb
  replace pB := pB.below hb
  have g0 := pB.cell 0
  have g1 := pB.cell 1
  have g2 := pB.cell 2
  have g3 := pB.cell 3
  simp at g0 g1 g2 g3
  clear hb kA
  go_wp2_with fail
  refine (kB _ (hMB _ bw) (hV.below bw)).mono ?_
  rintro e w2 ⟨rfl, hb⟩
  replace bw := bel_trans bw hb
  replace pA := pA.below hb
  replace pB := pB.below hb
  replace g0 := cells_kept hb _ _ g0
  replace g1 := cells_kept hb _ _ g1
  replace g2 := cells_kept hb _ _ g2
  replace g3 := cells_kept hb _ _ g3
  clear hb kB hMA hMB hV
  go_wp2_with fail
  refine (kLB _).mono ?_
  rintro e w3 ⟨rfl, hb⟩
  replace bw := bel_trans bw hb
  replace pA := pA.below hb
  clear hb kLB g0 g1 g2 g3 pB
  have hb4 : Below w3.heap.size w3 (w3.alloc (.cells #[.slice b0 3 d0, .slice b1 4 d1, .slice b2 2 d2, .slice b3 6 d3] 82)) := by go_grown
  have pC := Blk.new w3 82 [.slice b0 3 d0, .slice b1 4 d1, .slice b2 2 d2, .slice b3 6 d3]
  replace bw := bel_trans bw hb4
  replace pA := pA.below hb4
  clear hb4
  have g0 := pA.cell 0
  have g1 := pA.cell 1
  have g2 := pA.cell 2
  have g3 := pA.cell 3
  simp at g0 g1 g2 g3
  go_wp2_with fail
  generalize (w3.alloc (.cells #[.slice b0 3 d0, .slice b1 4 d1, .slice b2 2 d2, .slice b3 6 d3] 82)) = w4 at *
  generalize w3.heap.size = gC at *
  refine (kLA _).mono ?_
  rintro e w5 ⟨rfl, hb⟩
  replace bw := bel_trans bw hb
  replace pC := pC.below hb
  clear hb kLA g0 g1 g2 g3 pA
  have g0 := pC.cell 0
  simp at g0
  go_wp2_with fail
  refine wp_loop_rounds 5 ?_
  rw [rounds_succ]
  go_wp2_with fail
  refine (z0 _ bw).mono ?_
  rintro e w6 ⟨rfl, hb⟩
  replace bw := bel_trans bw hb
  replace pC := pC.below hb
  clear hb g0 z0
  cases x0
  · go_wp2
    go_ret
    exact ⟨rfl, bw⟩
  have g0 := pC.cell 1
  simp at g0
  go_wp2_with fail
  rw [rounds_succ]
  go_wp2_with fail
  refine (z1 _ bw).mono ?_
  rintro e w7 ⟨rfl, hb⟩
  replace bw := bel_trans bw hb
  replace pC := pC.below hb
  clear hb g0 z1
  cases x1
  · go_wp2
    go_ret
    exact ⟨rfl, bw⟩
  have g0 := pC.cell 2
  simp at g0
  go_wp2_with fail
  rw [rounds_succ]
  go_wp2_with fail
  refine (z2 _ bw).mono ?_
  rintro e w8 ⟨rfl, hb⟩
  replace bw := bel_trans bw hb
  replace pC := pC.below hb
  clear hb g0 z2
  cases x2
  · go_wp2
    go_ret
    exact ⟨rfl, bw⟩
  have g0 := pC.cell 3
  simp at g0
  go_wp2_with fail
  rw [rounds_succ]
  go_wp2_with fail
  refine (z3 _ bw).mono ?_
  rintro e w9 ⟨rfl, hb⟩
  replace bw := bel_trans bw hb
  clear hb g0 z3
  cases x3
  · go_wp2
    go_ret
    exact ⟨rfl, bw⟩
  go_wp2_with fail
  rw [rounds_succ]
  go_wp2
  go_ret
  exact ⟨rfl, bw⟩
end Go.Proofs.YtmhngodbnoonhaaGreatDoor


/-
  What the frame tells of a slice that came in holds in every later world that keeps what was there.
-/
namespace Go.Proofs.YtmhngodbnoonhaaGreatDoor
open Go.RowKit

theorem IsRow.below {k : IntKind} {w w' : World} {a : Option Addr} {len cap : Nat} {zs : List Int} (h : IsRow k w a len cap zs) (hb : Below w.heap.size w w') : IsRow k w' a len cap zs := by
  rcases h with h | ⟨x, h1, h2, h3, h4, h5, h6⟩
  · exact .inl h
  · refine .inr ⟨x, h1, h2, h3, h4, fun i hi => ?_, h6⟩
    have hc := h5 i hi
    have hlt : (x.add i).block < w.heap.size := by
      rcases Nat.lt_or_ge (x.add i).block w.heap.size with h' | h'
      · exact h'
      · simp [World.cell?, Array.getElem?_eq_none h'] at hc
    rw [hb.cell hlt]
    exact hc
theorem IsRow.len_le {k : IntKind} {w : World} {a : Option Addr} {len cap : Nat} {zs : List Int} (h : IsRow k w a len cap zs) : len ≤ maxLen := by
  rcases h with ⟨_, rfl, _, _⟩ | ⟨x, h1, h2, h3, _⟩
  · omega
  · omega
theorem IsRow.drew {k : IntKind} {w : World} {a : Option Addr} {len cap : Nat} {zs : List Int} (h : IsRow k w a len cap zs) (d : Nat) : IsRow k (w.drewN d) a len cap zs := h
end Go.Proofs.YtmhngodbnoonhaaGreatDoor


/-
  Two neighbours that do not depend on one another may change places: the law's walk.
-/
namespace Go.Proofs.YtmhngodbnoonhaaGreatDoor
open Go.RowKit
set_option linter.unusedVariables false
set_option linter.unusedSimpArgs false

theorem same_selfC {m : V4} (h : shapeOk m = true) : sameV m m = true := by unfold sameV; simp [h]
theorem schedule_intsC (a : Option Addr) (n cap : Nat) (zs : List Int) (aP : Option Addr) (capP : Nat) (rows : List (List I3)) (w : World) (hI : IsRow .u8 w a n cap zs) (hn : n ≤ 1048576) (hP : Codes w aP 3 capP rows) (hok : progOk rows = true) :
    Calls Tryz.prog 7 #[.slice a n cap, .agg #[.slice aP 3 capP]] w fun e w' => (∃ (lb lo lc k : Nat) (ks : List Int) (m : V4), e = .returned (.slice (some ⟨lb, lo, none⟩) k lc) ∧ Ints .i64 w' (some ⟨lb, lo, none⟩) k lc ks ∧ k ≤ 14 ∧ goesTo rows ks m) ∧ Below w.heap.size w w' := by
  refine (scheduleDrawn_any a n cap zs aP capP rows w hI hn hP hok).mono ?_
  rintro e w' ⟨⟨v, ks, m, ⟨g, c, rfl⟩, rfl, q, hl, hg⟩, hb⟩
  exact ⟨⟨g, 0, c, ks.length, ks, m, rfl, OwnI.ints (s := (some ⟨g, 0, none⟩, ks.length, c)) q, hl, hg⟩, hb⟩
theorem evE_okC {rows : List (List I3)} {ks : List Int} (hp : progOk rows = true) (hl : ¬ 4096 < ks.length) (c0 : (runI rows zeroV [] ks).2.2 = 0) : evE rows ks = evsM rows zeroV ks := by
  unfold evE
  rw [if_neg hl, hp, if_pos rfl, if_pos c0]
/-- The list with two neighbours changed. -/
def swapL (ks : List Int) (i : Nat) : List Int := (ks.set i (ks.getD (i + 1) 0)).set (i + 1) (ks.getD i 0)
theorem swapL_len (ks : List Int) (i : Nat) : (swapL ks i).length = ks.length := by simp [swapL]
theorem part_at {ks : List Int} {i : Nat} (h : i + 1 < ks.length) : ks = ks.take i ++ ks.getD i 0 :: ks.getD (i + 1) 0 :: ks.drop (i + 2) ∧ swapL ks i = ks.take i ++ ks.getD (i + 1) 0 :: ks.getD i 0 :: ks.drop (i + 2) := by
  have e1 : ks.drop i = ks.getD i 0 :: ks.getD (i + 1) 0 :: ks.drop (i + 2) := by
    rw [List.drop_eq_getElem_cons (by omega), List.drop_eq_getElem_cons h]
    simp [List.getD, h, show i < ks.length by omega]
  have e0 : ks = ks.take i ++ ks.getD i 0 :: ks.getD (i + 1) 0 :: ks.drop (i + 2) := by rw [← e1]; exact (List.take_append_drop i ks).symm
  refine ⟨e0, ?_⟩
  have hl : (ks.take i).length = i := by rw [List.length_take]; omega
  unfold swapL
  generalize ks.getD i 0 = a at *
  generalize ks.getD (i + 1) 0 = b at *
  generalize ks.drop (i + 2) = r at *
  generalize ks.take i = p at *
  subst e0
  subst hl
  rw [List.set_append_right _ _ (Nat.le_refl _), Nat.sub_self, List.set_cons_zero, List.set_append_right _ _ (by omega), show p.length + 1 - p.length = 1 by omega]
  rfl
/-- What neighbours that do not depend on one another do. -/
theorem commute_facts {rows : List (List I3)} {ks : List Int} {m : V4} (hp : progOk rows = true) (h : goesTo rows ks m) (hl : ks.length ≤ 14) {i : Nat} (hi : i + 1 < ks.length) (hd : depM (evAt (evE rows ks) i) (evAt (evE rows ks) (i + 1)) = false) :
    runZ rows (swapL ks i) = m ∧ runC rows (swapL ks i) = 0 ∧ scV rows ks (swapL ks i) = true ∧ scC rows ks (swapL ks i) = 0 := by
  obtain ⟨gZ, gC, gS⟩ := goes_run hp h hl
  have c0 : (runI rows zeroV [] ks).2.2 = 0 := by
    unfold runC at gC
    rw [if_neg (by omega), hp] at gC
    exact gC
  have z0 : (runI rows zeroV [] ks).1 = m := by
    unfold runZ at gZ
    rw [if_neg (by omega), hp] at gZ
    exact gZ
  have e0 : evE rows ks = evsM rows zeroV ks := evE_okC hp (by omega) c0
  obtain ⟨p1, p2⟩ := part_at hi
  have hsl := swapL_len ks i
  have c1 := c0
  rw [p1] at c1
  obtain ⟨e1, e2, rest, s1, s2⟩ := swap_at hp (ks.take i) (ks.drop (i + 2)) (ks.getD i 0) (ks.getD (i + 1) 0) c1
  rw [← p1] at s1 s2
  rw [← p2] at s2
  have hpl : (evsM rows zeroV (ks.take i)).length = i := by rw [evsM_len, List.length_take]; omega
  have d1 : evAt (evE rows ks) i = e1 := by
    rw [e0, s1]
    unfold evAt
    simp [List.getD, List.getElem?_append_right, hpl]
  have d2 : evAt (evE rows ks) (i + 1) = e2 := by
    rw [e0, s1]
    unfold evAt
    simp [List.getD, List.getElem?_append_right, hpl]
  rw [d1, d2] at hd
  obtain ⟨t1, t2, t3⟩ := s2 hd
  have e9 : evE rows (swapL ks i) = evsM rows zeroV (swapL ks i) := evE_okC hp (by omega) t2
  have k0 : evK rows ks = 0 := by unfold evK; rw [if_neg (by omega), hp, if_pos rfl]; exact c0
  have k1 : evK rows (swapL ks i) = 0 := by unfold evK; rw [if_neg (by omega), hp, if_pos rfl]; exact t2
  have hN : nrmE (evE rows ks) = nrmE (evE rows (swapL ks i)) := by
    have n1 := (norm_is (evE_three rows ks)).1
    have n2 := (norm_is (evE_three rows (swapL ks i))).1
    refine nrm_one (es := evE rows (swapL ks i)) ?_ n2
    refine nrm_sw1 n1 ?_
    rw [e0, e9, s1, t3]
    exact ⟨_, e1, e2, rest, rfl, rfl, hd⟩
  refine ⟨?_, ?_, ?_, ?_⟩
  · unfold runZ
    rw [if_neg (by omega), hp, if_pos rfl, t1]
    exact z0
  · unfold runC
    rw [if_neg (by omega), hp, if_pos rfl]
    exact t2
  · unfold scV
    rw [if_neg (by omega), if_pos k0, if_pos k1, hN]
    simp
  · unfold scC
    rw [if_neg (by omega), if_pos k0]
    exact k1
theorem ints_newsC {w : World} {lb lo n c : Nat} {ks : List Int} (h : Ints .i64 w (some ⟨lb, lo, none⟩) n c ks) : ∀ j u, (ks.map (Value.int .i64))[j]? = some u → w.cell? ((⟨lb, lo, none⟩ : Addr).add j) = some u := by
  intro j u hj
  obtain ⟨h1, h2, h3, h4⟩ := h
  have hjl : j < ks.length := by
    have := (List.getElem?_eq_some_iff.1 hj).1
    simpa using this
  rcases h4 with h4 | ⟨b, off, ha, hl, hc⟩
  · omega
  · cases ha
    rw [Addr.add_mid, hc j (by omega)]
    simp [hjl] at hj
    simp [List.getD, hjl, hj]
theorem kept12 {v w : World} {p0 p1 p2 p3 p4 p5 p6 p7 p8 p9 p10 p11 : Addr} {u0 u1 u2 u3 u4 u5 u6 u7 u8 u9 u10 u11 : Value} (hb : Below v.heap.size v w) (h : v.cell? p0 = some u0 ∧ v.cell? p1 = some u1 ∧ v.cell? p2 = some u2 ∧ v.cell? p3 = some u3 ∧ v.cell? p4 = some u4 ∧ v.cell? p5 = some u5 ∧ v.cell? p6 = some u6 ∧ v.cell? p7 = some u7 ∧ v.cell? p8 = some u8 ∧ v.cell? p9 = some u9 ∧ v.cell? p10 = some u10 ∧ v.cell? p11 = some u11) : w.cell? p0 = some u0 ∧ w.cell? p1 = some u1 ∧ w.cell? p2 = some u2 ∧ w.cell? p3 = some u3 ∧ w.cell? p4 = some u4 ∧ w.cell? p5 = some u5 ∧ w.cell? p6 = some u6 ∧ w.cell? p7 = some u7 ∧ w.cell? p8 = some u8 ∧ w.cell? p9 = some u9 ∧ w.cell? p10 = some u10 ∧ w.cell? p11 = some u11 :=
  ⟨cells_kept hb _ _ h.1, cells_kept hb _ _ h.2.1, cells_kept hb _ _ h.2.2.1, cells_kept hb _ _ h.2.2.2.1, cells_kept hb _ _ h.2.2.2.2.1, cells_kept hb _ _ h.2.2.2.2.2.1, cells_kept hb _ _ h.2.2.2.2.2.2.1, cells_kept hb _ _ h.2.2.2.2.2.2.2.1, cells_kept hb _ _ h.2.2.2.2.2.2.2.2.1, cells_kept hb _ _ h.2.2.2.2.2.2.2.2.2.1, cells_kept hb _ _ h.2.2.2.2.2.2.2.2.2.2.1, cells_kept hb _ _ h.2.2.2.2.2.2.2.2.2.2.2⟩
theorem map_setC (ks : List Int) (i : Nat) (x : Int) : (ks.map (Value.int .i64)).set i (.int .i64 x) = (ks.set i x).map (Value.int .i64) := by rw [List.map_set]
theorem ints_cellC {w : World} {lb lo n c : Nat} {ks : List Int} (h : Ints .i64 w (some ⟨lb, lo, none⟩) n c ks) {i : Nat} (hi : i < n) : w.cell? ⟨lb, lo + i, none⟩ = some (.int .i64 (ks.getD i 0)) := by
  obtain ⟨h1, h2, h3, h4⟩ := h
  rcases h4 with h4 | ⟨b, off, ha, hl, hc⟩
  · omega
  · cases ha
    exact hc i hi

set_option maxHeartbeats 8000000 in
set_option maxRecDepth 100000 in
theorem fnCommute_walk (a0 : Option Addr) (len0 cap0 : Nat) (z0 : List Int) (a1 : Option Addr) (len1 cap1 : Nat) (z1 : List Int) (w : World) (h0 : IsRow .u8 w a0 len0 cap0 z0) (h1 : IsRow .u8 w a1 len1 cap1 z1) (hV : VmShape w) :
    Calls Tryz.prog 3 #[.slice a0 len0 cap0, .slice a1 len1 cap1] w fun e w' => e = .returned (.bool true) ∧ Below w.heap.size w w' := by
  have m0 := h0.len_le
  have m1 := h1.len_le
  unfold maxLen at m0 m1
  by_cases hb0 : 1048576 < len0
  · go_enter Tryz.func3, Tryz.ntmps3
    go_wp2
    go_ret
    exact ⟨rfl, Below.refl _ _⟩
  by_cases hb1 : 1048576 < len1
  · go_enter Tryz.func3, Tryz.ntmps3
    go_wp2
    go_ret
    exact ⟨rfl, Below.refl _ _⟩
  have l0 : len0 ≤ 1048576 := by omega
  have l1 : len1 ≤ 1048576 := by omega
  clear hb0 hb1 m0 m1
  have bW : Below w.heap.size w w := Below.refl _ _
  go_enter Tryz.func3, Tryz.ntmps3
  go_wp2_with fail
  refine (programDrawn_any _ _ _ z0 _ h0 l0).mono ?_
  rintro e w1 ⟨⟨v, rows, hok, rfl, ho⟩, hb⟩
  have h3 := (progOk_parts hok).1
  obtain ⟨a, cap, hv⟩ := ho.slice
  rw [h3] at hv
  subst hv
  have hC := ho.codes (fun r hr x hx => okI_fits ((progOk_parts hok).2 r hr |>.2 x hx))
  clear ho h0
  replace h1 := h1.below hb
  replace hV := hV.below hb
  replace bW := bel_trans bW hb
  clear hb h3
  have HOK : Hid (progOk rows = true) := hok
  clear hok
  have ha : Below w1.heap.size w1 (w1.alloc (.cells #[.slice a 3 cap] 25)) := by go_grown
  have cP : (w1.alloc (.cells #[.slice a 3 cap] 25)).cell? ⟨w1.heap.size, 0, none⟩ = some (.slice a 3 cap) := by simp [go_sem]
  replace h1 := h1.below ha
  replace hV := hV.below ha
  replace hC := hC.below ha
  replace bW := bel_trans bW ha
  clear ha
  go_wp2_with fail
  generalize (w1.alloc (.cells #[.slice a 3 cap] 25)) = wp at *
  generalize w1.heap.size = P at *
  refine (schedule_intsC _ _ _ z1 a cap rows _ h1 l1 hC HOK.out).mono ?_
  rintro e w2 ⟨⟨lb, lo, lc, n, ks, m, rfl, hL, hn14, hg⟩, hb⟩
  replace hV := hV.below hb
  replace hC := hC.below hb
  replace cP := cells_kept hb _ _ cP
  replace bW := bel_trans bW hb
  clear hb h1 l0 l1
  have hln := hL.1
  obtain ⟨gZ, gC, gS⟩ := goes_run HOK.out hg (by omega)
  have HF : Hid (∀ i, i + 1 < n → depM (evAt (evE rows ks) i) (evAt (evE rows ks) (i + 1)) = false → runZ rows (swapL ks i) = m ∧ runC rows (swapL ks i) = 0 ∧ scV rows ks (swapL ks i) = true ∧ scC rows ks (swapL ks i) = 0) := fun i hi hd => commute_facts HOK.out hg (by omega) (by omega) hd
  have fK : evK rows ks = 0 := by
    have := gC
    unfold runC at this
    unfold evK
    rw [if_neg (by omega), HOK.out, if_pos rfl] at this ⊢
    exact this
  have fL : (evE rows ks).length = n := by
    have := gC
    unfold runC at this
    rw [if_neg (by omega), HOK.out, if_pos rfl] at this
    rw [evE_okC HOK.out (by omega) this, evsM_len, hln]
  have kE := fun (W : World) hC hV hL => implEventsOf_is a 3 cap rows (some ⟨lb, lo, none⟩) n lc ks W hC hV hL
  have kG := fun (W : World) hC hL => specEventsOf_is a 3 cap rows (some ⟨lb, lo, none⟩) n lc ks W hC hL
  have kR := fun (W : World) hC hV hL => implRunSchedule_is a 3 cap rows (some ⟨lb, lo, none⟩) n lc ks W hC hV hL
  have kR2 := fun (i : Nat) (la : Option Addr) (k c : Nat) (W : World) hC hV hL => implRunSchedule_is a 3 cap rows la k c (swapL ks i) W hC hV hL
  have kS2 := fun (i : Nat) (la : Option Addr) (k c : Nat) (W : World) hC hV hL hM => implSameClass_is a 3 cap rows (some ⟨lb, lo, none⟩) n lc ks la k c (swapL ks i) W hC hV hL hM
  rw [gZ, gC] at kR
  rw [fK] at kE kG
  have fm := (shape_fits9 gS).1
  have kM := fun (t t' : S4) W hA hB hV => implSameVm_is t m t' m W hA hB hV
  rw [same_selfC gS] at kM
  generalize evE rows ks = es at *
  obtain ⟨i1, hi1, hz3, hz4, hz5⟩ := info_parts info_int
  clear gZ gC fK hg HOK gS
  go_wp2_with fail
  refine (kE _ hC hV hL).mono ?_
  rintro e w3 ⟨⟨v, rfl, q⟩, hb⟩
  replace hV := hV.below hb
  replace hC := hC.below hb
  replace hL := hL.below hb
  replace cP := cells_kept hb _ _ cP
  replace bW := bel_trans bW hb
  obtain ⟨ea, ec, rfl, hA⟩ := evs_slice q
  rw [fL] at hA
  rw [fL]
  clear hb q kE
  go_wp2_with fail
  refine (kG _ hC hL).mono ?_
  rintro e w4 ⟨⟨v, rfl, q⟩, hb⟩
  replace hV := hV.below hb
  replace hC := hC.below hb
  replace hL := hL.below hb
  replace cP := cells_kept hb _ _ cP
  replace hA := hA.below hb
  replace bW := bel_trans bW hb
  obtain ⟨fa, fc, rfl, hB⟩ := evs_slice q
  rw [fL] at hB
  rw [fL]
  clear hb q kG fL
  have hnn : ((n : Int) != (n : Int)) = false := by simp
  go_wp2_with fail
  refine (kR _ hC hV hL).mono ?_
  rintro e w5 ⟨⟨⟨⟨s0a, s0n, s0c⟩, ⟨s1a, s1n, s1c⟩, ⟨s2a, s2n, s2c⟩, ⟨s3a, s3n, s3c⟩⟩, vs, rfl, hO, q⟩, hb⟩
  have us : S4.val ((s0a, s0n, s0c), (s1a, s1n, s1c), (s2a, s2n, s2c), (s3a, s3n, s3c)) = .agg #[.slice s0a s0n s0c, .slice s1a s1n s1c, .slice s2a s2n s2c, .slice s3a s3n s3c] := rfl
  rw [us]
  have hMs := hO.mem fm
  replace hV := hV.below hb
  replace hC := hC.below hb
  replace hL := hL.below hb
  replace cP := cells_kept hb _ _ cP
  replace hA := hA.below hb
  replace hB := hB.below hb
  replace bW := bel_trans bW hb
  clear hb hO q
  have ha : Below w5.heap.size w5 (w5.alloc (.cells #[.slice s0a s0n s0c, .slice s1a s1n s1c, .slice s2a s2n s2c, .slice s3a s3n s3c] 33)) := by go_grown
  have cs0 : (w5.alloc (.cells #[.slice s0a s0n s0c, .slice s1a s1n s1c, .slice s2a s2n s2c, .slice s3a s3n s3c] 33)).cell? ⟨w5.heap.size, 0, none⟩ = some (.slice s0a s0n s0c) := by simp [go_sem]
  have cs1 : (w5.alloc (.cells #[.slice s0a s0n s0c, .slice s1a s1n s1c, .slice s2a s2n s2c, .slice s3a s3n s3c] 33)).cell? ⟨w5.heap.size, 1, none⟩ = some (.slice s1a s1n s1c) := by simp [go_sem]
  have cs2 : (w5.alloc (.cells #[.slice s0a s0n s0c, .slice s1a s1n s1c, .slice s2a s2n s2c, .slice s3a s3n s3c] 33)).cell? ⟨w5.heap.size, 2, none⟩ = some (.slice s2a s2n s2c) := by simp [go_sem]
  have cs3 : (w5.alloc (.cells #[.slice s0a s0n s0c, .slice s1a s1n s1c, .slice s2a s2n s2c, .slice s3a s3n s3c] 33)).cell? ⟨w5.heap.size, 3, none⟩ = some (.slice s3a s3n s3c) := by simp [go_sem]
  replace hV := hV.below ha
  replace hC := hC.below ha
  replace hL := hL.below ha
  replace cP := cells_kept ha _ _ cP
  replace hA := hA.below ha
  replace hB := hB.below ha
  replace hMs := hMs.below ha
  replace bW := bel_trans bW ha
  clear ha
  go_wp2_with fail
  generalize (w5.alloc (.cells #[.slice s0a s0n s0c, .slice s1a s1n s1c, .slice s2a s2n s2c, .slice s3a s3n s3c] 33)) = Ws at *
  generalize w5.heap.size = Gs at *
  clear kR hnn
  go_loopw [14] (fun si wr => ∃ i : Nat, i ≤ n ∧ si = .int .i64 i ∧ Below Ws.heap.size Ws wr) (fun si _ => n - (intOf si).toNat)
  case atStart => exact ⟨0, by omega, rfl, Below.refl _ _⟩
  case round =>
    obtain ⟨i, hi, rfl, br⟩ := hrel
    by_cases hin : i + 1 < n
    · have hin' : (i : Int) + 1 < (n : Int) := by omega
      replace hV := hV.below br
      replace hC := hC.below br
      replace hL := hL.below br
      replace cP := cells_kept br _ _ cP
      replace hA := hA.below br
      replace hB := hB.below br
      replace hMs := hMs.below br
      replace cs0 := cells_kept br _ _ cs0
      replace cs1 := cells_kept br _ _ cs1
      replace cs2 := cells_kept br _ _ cs2
      replace cs3 := cells_kept br _ _ cs3
      replace bW := bel_trans bW br
      have hi0 : (0 : Int) ≤ (i : Int) := by omega
      have hi2 : (i : Int) < (n : Int) := by omega
      have hi3 : (0 : Int) ≤ (i : Int) + 1 := by omega
      have hw9 : IntKind.i64.wrap ((i : Int) + 1) = (i : Int) + 1 := IntWalk.i64_in _ ⟨by omega, by omega⟩
      obtain ⟨ga, rfl, hga, x0, x1, x2, x3⟩ := ev_cells hA (Below.refl _ _) (show i < n by omega)
      obtain ⟨ga9, hga9, _, y0, y1, y2, y3⟩ := ev_cells hA (Below.refl _ _) hin
      cases hga9
      obtain ⟨gb, rfl, hgb, z0, z1, z2, z3⟩ := ev_cells hB (Below.refl _ _) (show i < n by omega)
      have hFi := HF.out i hin
      generalize evAt es i = x at *
      generalize evAt es (i + 1) = y at *
      obtain ⟨xa, xb, xc, xd⟩ := x
      obtain ⟨ya, yb, yc, yd⟩ := y
      simp only at x0 x1 x2 x3 y0 y1 y2 y3 z0 z1 z2 z3
      have kD := implDepends_is (xa, xb, xc, xd) (ya, yb, yc, yd)
      have kd := specDepends_is (xa, xb, xc, xd) (ya, yb, yc, yd)
      unfold I4.val at kD kd
      simp only at kD kd
      generalize depM (xa, xb, xc, xd) (ya, yb, yc, yd) = d at *
      have hdd : (d != d) = false := by simp
      go_wp2_with fail
      go_region_held3 (fun w' => w'.cell? ⟨ga, i * 4, none⟩ = some (.int .i64 xa) ∧ w'.cell? ⟨ga, i * 4 + 1, none⟩ = some (.int .i64 xb) ∧ w'.cell? ⟨ga, i * 4 + 2, none⟩ = some (.int .i64 xc) ∧ w'.cell? ⟨ga, i * 4 + 3, none⟩ = some (.int .i64 xd) ∧ w'.cell? ⟨gb, i * 4, none⟩ = some (.int .i64 xa) ∧ w'.cell? ⟨gb, i * 4 + 1, none⟩ = some (.int .i64 xb) ∧ w'.cell? ⟨gb, i * 4 + 2, none⟩ = some (.int .i64 xc) ∧ w'.cell? ⟨gb, i * 4 + 3, none⟩ = some (.int .i64 xd) ∧ w'.cell? ⟨ga, (i + 1) * 4, none⟩ = some (.int .i64 ya) ∧ w'.cell? ⟨ga, (i + 1) * 4 + 1, none⟩ = some (.int .i64 yb) ∧ w'.cell? ⟨ga, (i + 1) * 4 + 2, none⟩ = some (.int .i64 yc) ∧ w'.cell? ⟨ga, (i + 1) * 4 + 3, none⟩ = some (.int .i64 yd)) (first | (exact ⟨x0, x1, x2, x3, z0, z1, z2, z3, y0, y1, y2, y3⟩) | (exact kept12 hb2 (by assumption)) | (exact kept12 hb1 ⟨x0, x1, x2, x3, z0, z1, z2, z3, y0, y1, y2, y3⟩) | go_keep)
        (first | (go_at_call 11; refine (kD _).mono ?_; rintro e wa ⟨rfl, hb1⟩) | (go_at_call 12; refine (kd _).mono ?_; rintro e wb ⟨rfl, hb2⟩))
      rename_i hHeld
      have hb9 : Below wr.heap.size wr wb := bel_trans (by go_grown) (bel_trans hb1 hb2)
      clear x0 x1 x2 x3 y0 y1 y2 y3 z0 z1 z2 z3
      obtain ⟨x0, x1, x2, x3, _, _, _, _, y0, y1, y2, y3⟩ := hHeld
      replace hV := hV.below hb9
      replace hC := hC.below hb9
      replace hL := hL.below hb9
      replace cP := cells_kept hb9 _ _ cP
      replace hA := hA.below hb9
      replace hB := hB.below hb9
      replace hMs := hMs.below hb9
      replace cs0 := cells_kept hb9 _ _ cs0
      replace cs1 := cells_kept hb9 _ _ cs1
      replace cs2 := cells_kept hb9 _ _ cs2
      replace cs3 := cells_kept hb9 _ _ cs3
      replace bW := bel_trans bW hb9
      replace br := bel_trans br hb9
      clear hb9 hb1 hb2 kd
      go_wp2_with fail
      go_region_held3 (fun w' => w'.cell? ⟨ga, i * 4, none⟩ = some (.int .i64 xa) ∧ w'.cell? ⟨ga, i * 4 + 1, none⟩ = some (.int .i64 xb) ∧ w'.cell? ⟨ga, i * 4 + 2, none⟩ = some (.int .i64 xc) ∧ w'.cell? ⟨ga, i * 4 + 3, none⟩ = some (.int .i64 xd) ∧ w'.cell? ⟨ga, (i + 1) * 4, none⟩ = some (.int .i64 ya) ∧ w'.cell? ⟨ga, (i + 1) * 4 + 1, none⟩ = some (.int .i64 yb) ∧ w'.cell? ⟨ga, (i + 1) * 4 + 2, none⟩ = some (.int .i64 yc) ∧ w'.cell? ⟨ga, (i + 1) * 4 + 3, none⟩ = some (.int .i64 yd)) (first | (exact ⟨x0, x1, x2, x3, y0, y1, y2, y3⟩) | (refine ⟨?_, ?_, ?_, ?_, ?_, ?_, ?_, ?_⟩ <;> (apply cells_kept (by assumption); assumption)) | go_keep)
        (first | (go_at_call 11; refine (kD _).mono ?_; rintro e wc ⟨rfl, hb1⟩))
      rename_i hHeld
      clear hHeld
      have hb9 : Below wb.heap.size wb wc := bel_trans (by go_grown) hb1
      clear x0 x1 x2 x3 y0 y1 y2 y3
      replace hV := hV.below hb9
      replace hC := hC.below hb9
      replace hL := hL.below hb9
      replace cP := cells_kept hb9 _ _ cP
      replace hA := hA.below hb9
      replace hB := hB.below hb9
      replace hMs := hMs.below hb9
      replace cs0 := cells_kept hb9 _ _ cs0
      replace cs1 := cells_kept hb9 _ _ cs1
      replace cs2 := cells_kept hb9 _ _ cs2
      replace cs3 := cells_kept hb9 _ _ cs3
      replace bW := bel_trans bW hb9
      replace br := bel_trans br hb9
      clear hb9 hb1 kD hA hB hga hgb
      cases d
      · obtain ⟨fZ, fC, fV, fc⟩ := hFi rfl
        have kRx := kR2 i
        have kSx := kS2 i
        rw [fZ, fC] at kRx
        rw [fV, fc] at kSx
        clear hFi fZ fC fV fc kR2 kS2 hw9
        have ha : Below wc.heap.size wc (wc.alloc (.cells #[] 3)) := by go_grown
        have q := own_emptyB wc 3 1 wc.heap.size (Nat.le_refl _)
        have hL9 := hL.below ha
        have hL0 := hL
        have hbs := ha.size
        go_wp2_with (at_builtin; refine wpList_append_own _ rfl _ _ 27 rfl wc.heap.size 3 i1 (.int .i64 0) 1 8 Tryz.underlying27 hi1 hz3 hz4 hz5 rfl (by decide) _ _ _ rfl q ⟨lb, lo, none⟩ n lc (ks.map (Value.int .i64)) rfl (by rw [List.length_map]; omega) (ints_newsC hL9) (by intro u hu; obtain ⟨x, _, rfl⟩ := List.mem_map.1 hu; rfl) ?c3 ?c4 ?c5 ?_)
        case c3 => unfold maxLen; omega
        case c4 => omega
        case c5 => exact hbs
        intro v' wn hown' hgrow hx9
        clear hx9
        have hbn : Below wc.heap.size wc wn := ha.grown hgrow hbs (fun k e => by cases e; exact Nat.le_refl _)
        clear hgrow ha q hL9 hbs
        obtain ⟨og, oc, rfl⟩ : ∃ og oc, v' = .slice (some ⟨og, 0, none⟩) n oc := by
          rcases hown'.2 with ⟨_, h9⟩ | ⟨g9, c9, _, h9, _⟩
          · omega
          · exact ⟨g9, c9, h9⟩
        have hog := (hown'.lt og rfl).1
        have hLn := hL.below hbn
        have l1 := ints_cellC hLn hin
        have l2 := ints_cellC hLn (show i < n by omega)
        obtain ⟨kA, hkA⟩ : ∃ kA, kA = ks.getD i 0 := ⟨_, rfl⟩
        obtain ⟨kB, hkB⟩ : ∃ kB, kB = ks.getD (i + 1) 0 := ⟨_, rfl⟩
        have HS : Hid (swapL ks i = (ks.set i kB).set (i + 1) kA) := by unfold swapL; rw [hkA, hkB]; rfl
        rw [← hkB] at l1
        rw [← hkA] at l2
        have s1 := hown'.stored i (.int .i64 kB)
        rw [map_setC] at s1
        have s2 := s1.1.stored (i + 1) (.int .i64 kA)
        rw [map_setC] at s2
        have k1 := (hown'.cellAt i (by omega)).trans (show (ks.map (Value.int .i64))[i]? = some (.int .i64 kA) by rw [hkA]; simp [List.getD, show i < ks.length by omega])
        have f1 := hown'.frozenAt i
        have f2 := s1.1.frozenAt (i + 1)
        have k3 := (hown'.cellAt (i + 1) (by omega)).trans (show (ks.map (Value.int .i64))[i + 1]? = some (.int .i64 kB) by rw [hkB]; simp [List.getD, show i + 1 < ks.length by omega])
        have f3 := hown'.frozenAt (i + 1)
        have g1 := s1.2
        have g2 := s2.2
        have hX := Ints.of_owns s2.1
        rw [← HS.out] at hX
        clear hkA hkB HS
        have hlb : lb < wc.heap.size := by
          obtain ⟨_, _, _, h9 | ⟨b9, o9, e9, h9, _⟩⟩ := hL0
          · omega
          · cases e9; exact h9
        have b1 : Below wc.heap.size wc (wn.setCell ⟨og, i, none⟩ (.int .i64 kB)) := hbn.setCell hog _
        have l3 : (wn.setCell ⟨og, i, none⟩ (.int .i64 kB)).cell? ⟨lb, lo + i, none⟩ = some (.int .i64 kA) := by
          rw [b1.cell (p := ⟨lb, lo + i, none⟩) hlb, ← hbn.cell (p := ⟨lb, lo + i, none⟩) hlb]
          exact l2
        have hb9 : Below wc.heap.size wc ((wn.setCell ⟨og, i, none⟩ (.int .i64 kB)).setCell ⟨og, i + 1, none⟩ (.int .i64 kA)) := b1.setCell hog _
        replace hV := hV.below hb9
        replace hC := hC.below hb9
        replace hL := hL.below hb9
        replace cP := cells_kept hb9 _ _ cP
        replace hMs := hMs.below hb9
        replace cs0 := cells_kept hb9 _ _ cs0
        replace cs1 := cells_kept hb9 _ _ cs1
        replace cs2 := cells_kept hb9 _ _ cs2
        replace cs3 := cells_kept hb9 _ _ cs3
        replace bW := bel_trans bW hb9
        replace br := bel_trans br hb9
        clear g1 g2 s2 hLn hL0 b1 hb9 hbn
        go_wp2_with fail
        generalize (wn.setCell ⟨og, i, none⟩ (.int .i64 kB)).setCell ⟨og, i + 1, none⟩ (.int .i64 kA) = wX at *
        clear l1 l2 l3 k1 k3 f1 f2 f3 s1 hown'
        refine (kRx _ _ _ _ hC hV hX).mono ?_
        rintro e w6 ⟨⟨⟨⟨x0a, x0n, x0c⟩, ⟨x1a, x1n, x1c⟩, ⟨x2a, x2n, x2c⟩, ⟨x3a, x3n, x3c⟩⟩, vs, rfl, hO, q⟩, hb⟩
        have ux : S4.val ((x0a, x0n, x0c), (x1a, x1n, x1c), (x2a, x2n, x2c), (x3a, x3n, x3c)) = .agg #[.slice x0a x0n x0c, .slice x1a x1n x1c, .slice x2a x2n x2c, .slice x3a x3n x3c] := rfl
        rw [ux]
        have hMx := hO.mem fm
        replace hV := hV.below hb
        replace hC := hC.below hb
        replace hL := hL.below hb
        replace cP := cells_kept hb _ _ cP
        replace hMs := hMs.below hb
        replace cs0 := cells_kept hb _ _ cs0
        replace cs1 := cells_kept hb _ _ cs1
        replace cs2 := cells_kept hb _ _ cs2
        replace cs3 := cells_kept hb _ _ cs3
        replace hX := hX.below hb
        replace bW := bel_trans bW hb
        replace br := bel_trans br hb
        clear hb hO q kRx
        have ha : Below w6.heap.size w6 (w6.alloc (.cells #[.slice x0a x0n x0c, .slice x1a x1n x1c, .slice x2a x2n x2c, .slice x3a x3n x3c] 33)) := by go_grown
        have cx0 : (w6.alloc (.cells #[.slice x0a x0n x0c, .slice x1a x1n x1c, .slice x2a x2n x2c, .slice x3a x3n x3c] 33)).cell? ⟨w6.heap.size, 0, none⟩ = some (.slice x0a x0n x0c) := by simp [go_sem]
        have cx1 : (w6.alloc (.cells #[.slice x0a x0n x0c, .slice x1a x1n x1c, .slice x2a x2n x2c, .slice x3a x3n x3c] 33)).cell? ⟨w6.heap.size, 1, none⟩ = some (.slice x1a x1n x1c) := by simp [go_sem]
        have cx2 : (w6.alloc (.cells #[.slice x0a x0n x0c, .slice x1a x1n x1c, .slice x2a x2n x2c, .slice x3a x3n x3c] 33)).cell? ⟨w6.heap.size, 2, none⟩ = some (.slice x2a x2n x2c) := by simp [go_sem]
        have cx3 : (w6.alloc (.cells #[.slice x0a x0n x0c, .slice x1a x1n x1c, .slice x2a x2n x2c, .slice x3a x3n x3c] 33)).cell? ⟨w6.heap.size, 3, none⟩ = some (.slice x3a x3n x3c) := by simp [go_sem]
        replace hV := hV.below ha
        replace hC := hC.below ha
        replace hL := hL.below ha
        replace cP := cells_kept ha _ _ cP
        replace hMs := hMs.below ha
        replace cs0 := cells_kept ha _ _ cs0
        replace cs1 := cells_kept ha _ _ cs1
        replace cs2 := cells_kept ha _ _ cs2
        replace cs3 := cells_kept ha _ _ cs3
        replace hX := hX.below ha
        replace hMx := hMx.below ha
        replace bW := bel_trans bW ha
        replace br := bel_trans br ha
        clear ha
        go_wp2_with fail
        generalize (w6.alloc (.cells #[.slice x0a x0n x0c, .slice x1a x1n x1c, .slice x2a x2n x2c, .slice x3a x3n x3c] 33)) = Wx at *
        generalize w6.heap.size = Gx at *
        refine (kSx _ _ _ _ hC hV hL hX).mono ?_
        rintro e w7 ⟨rfl, hb⟩
        replace hV := hV.below hb
        replace hC := hC.below hb
        replace hL := hL.below hb
        replace cP := cells_kept hb _ _ cP
        replace hMs := hMs.below hb
        replace cs0 := cells_kept hb _ _ cs0
        replace cs1 := cells_kept hb _ _ cs1
        replace cs2 := cells_kept hb _ _ cs2
        replace cs3 := cells_kept hb _ _ cs3
        replace hX := hX.below hb
        replace hMx := hMx.below hb
        replace cx0 := cells_kept hb _ _ cx0
        replace cx1 := cells_kept hb _ _ cx1
        replace cx2 := cells_kept hb _ _ cx2
        replace cx3 := cells_kept hb _ _ cx3
        replace bW := bel_trans bW hb
        replace br := bel_trans br hb
        clear hb kSx
        have kXS := kM ((x0a, x0n, x0c), (x1a, x1n, x1c), (x2a, x2n, x2c), (x3a, x3n, x3c)) ((s0a, s0n, s0c), (s1a, s1n, s1c), (s2a, s2n, s2c), (s3a, s3n, s3c))
        rw [ux, us] at kXS
        go_wp2_with fail
        refine (kXS _ hMx hMs hV).mono ?_
        rintro e w8 ⟨rfl, hb⟩
        replace br := bel_trans br hb
        clear hb kXS
        go_wp2
        go_roundw
        case rel => exact ⟨i + 1, by omega, by go_num, br⟩
        case measure => simp [intOf]; omega
      · go_wp2
        go_roundw
        case rel => exact ⟨i + 1, by omega, by go_num, br⟩
        case measure => simp [intOf]; omega
    · have hin9 : ¬ (i : Int) + 1 < (n : Int) := by omega
      go_wp2
      go_ret
      exact ⟨rfl, bel_trans bW br⟩

theorem fnCommute_laid {W : World} (h : laidMetH Tryz.prog Rows.fnCommuteRow.laid W) : VmShape W := vmShape_of_laid rfl h
theorem fnCommute_door_met (os : Os) (args : Array Value) : laidMetH Tryz.prog Rows.fnCommuteRow.laid ((World.doorLaid Tryz.prog 400 os).forCall (fun _ _ => 0) ⟨#[], args, []⟩).memory :=
  laidMetH_of_parts3 (fuel := 8) (laidMet_of_run' 8 (by kernel_rfl) (by kernel_rfl)) (by kernel_rfl) (by kernel_rfl)
end Go.Proofs.YtmhngodbnoonhaaGreatDoor
