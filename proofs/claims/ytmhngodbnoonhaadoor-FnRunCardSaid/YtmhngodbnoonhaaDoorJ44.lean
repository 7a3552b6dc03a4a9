/-
  FnRun, part 44 of 50 (FrP, RsS, DrwB, SmB, Vm5).
-/
import Derived.Test.YtmhngodbnoonhaaDoorJ34
import Derived.Test.YtmhngodbnoonhaaDoorJ43
import Derived.Test.YtmhngodbnoonhaaDoorJ42
import Derived.Test.YtmhngodbnoonhaaDoorJ29
import Derived.Test.YtmhngodbnoonhaaDoorJ07
import Derived.Test.YtmhngodbnoonhaaDoorJ32
import Derived.Deep.RegionHeld3

/-
  What FnRun asks, in plain words.
-/
namespace Go.Proofs.YtmhngodbnoonhaaDoor
open Go.RowKit
set_option linter.unusedVariables false

theorem goes_run {rows : List (List I3)} {ks : List Int} {m : V4} (hp : progOk rows = true) (h : goesTo rows ks m) (hl : ks.length ≤ 14) : runZ rows ks = m ∧ runC rows ks = 0 ∧ shapeOk m = true := by
  obtain ⟨h1, h2⟩ := h
  have h9 : ¬ 4096 < ks.length := by omega
  unfold runZ runC
  simp only [if_neg h9, if_pos hp]
  refine ⟨h2, h1, ?_⟩
  rw [← h2]
  exact (runI_ok hp ks zeroV [] zero_shape (by simp)).1
theorem goes_beyond {rows : List (List I3)} {ks : List Int} {m : V4} (hp : progOk rows = true) (h : goesTo rows ks m) (hl : ks.length ≤ 14) : runC rows (ks ++ [3]) = 4 := by
  obtain ⟨h1, h2⟩ := h
  unfold runC
  rw [if_neg (by rw [List.length_append]; simp; omega), if_pos hp, runI_snoc rows 3 ks zeroV [] h1]
  have hz : haltM rows (runI rows zeroV [] ks).1 3 = 4 := by unfold haltM; rw [if_neg (by omega)]
  show (if haltM rows (runI rows zeroV [] ks).1 3 = 0 then _ else _ : V4 × List I3 × Int).2.2 = 4
  rw [if_neg (by rw [hz]; decide)]
  exact hz
theorem goes_witness {rows : List (List I3)} {ks : List Int} {m : V4} {y : I3} (hp : progOk rows = true) (h : goesTo rows ks m) (hl : ks.length ≤ 14) (hy : y ∈ runF rows ks) : witV rows ks y = true ∧ witC rows ks y = 0 := by
  have hc := (goes_run hp h hl).2.1
  have ho := (runF_ok rows ks).1 y hy
  have h9 : ¬ 4096 < ks.length := by omega
  unfold witV witC
  rw [hp, ho, hc]
  simp only [if_neg h9]
  simp only [Bool.and_self, if_true, decide_true, Bool.true_and, and_true]
  exact hasW_iff.2 hy
theorem halt_step {rows : List (List I3)} {m : V4} {k : Int} (hp : progOk rows = true) (hs : shapeOk m = true) (hz : haltM rows m k = 0) : stepZ rows m k = (goM rows m k).1 ∧ stepC rows m k = 0 := by
  obtain ⟨h0, h2, hd, hc⟩ := halt_can hz
  have hk3 : (0 : Int) ≤ k ∧ k < 3 := by omega
  unfold stepZ stepC goM
  simp only [hp, hs, Bool.and_self, if_true, hk3, and_self, hd, hc]
theorem getD_memF {xs : List I3} {k : Nat} (hk : k < xs.length) : xs.getD k (0, 0, 0) ∈ xs := by
  simp only [List.getD, List.getElem?_eq_getElem hk, Option.getD_some]
  exact List.getElem_mem hk
end Go.Proofs.YtmhngodbnoonhaaDoor


/-
  The specification's RunSchedule.
-/
namespace Go.Proofs.YtmhngodbnoonhaaDoor
open Go.RowKit
set_option linter.unusedVariables false
set_option linter.unusedSimpArgs false

theorem runS_runJ (rows : List (List I3)) (ks : List Int) : runS rows zeroV [] ks = ((runI rows zeroV [] ks).1, mergeB (runI rows zeroV [] ks).2.1 (deadM rows (runI rows zeroV [] ks).1), (runI rows zeroV [] ks).2.2) := by
  have h0 : ([] : List I3) = mergeB [] (deadM rows zeroV) := by unfold deadM; rw [stuck_zero]; rfl
  obtain ⟨h1, h2, h3⟩ := run_same (rows := rows) ks zeroV [] [] h0
  rw [← h1, ← h2] at *
  exact Prod.ext h1 (Prod.ext h3 rfl)
theorem runF_okJ (rows : List (List I3)) (ks : List Int) : (∀ x ∈ runF rows ks, okB x = true) ∧ (runF rows ks).length ≤ 5000 := by
  unfold runF
  split
  · simp
  · split
    · rename_i h1 h2
      have a := runI_ok h2 ks zeroV [] zero_shape (by simp)
      have b := runI_len (rows := rows) ks zeroV []
      have c := mergeB_len (runI rows zeroV [] ks).2.1 (deadM rows (runI rows zeroV [] ks).1)
      have d : (deadM rows (runI rows zeroV [] ks).1).length ≤ 1 := by unfold deadM; split <;> simp
      refine ⟨mergeB_ok a.2 (deadM_ok _ _), ?_⟩
      simp at b
      omega
    · simp
theorem runZ_ok (rows : List (List I3)) (ks : List Int) : V4.fits (runZ rows ks) ∧ ((runZ rows ks).1.length ≤ 1000 ∧ (runZ rows ks).2.1.length ≤ 1000 ∧ (runZ rows ks).2.2.1.length ≤ 1000 ∧ (runZ rows ks).2.2.2.length ≤ 1000) := by
  unfold runZ
  split
  · exact ⟨⟨by simp, by simp, by simp, by simp⟩, by simp⟩
  · split
    · rename_i h1 h2
      have a := (runI_ok h2 ks zeroV [] zero_shape (by simp)).1
      obtain ⟨l0, l1, l2, l3, _⟩ := shape_parts a
      exact ⟨(shape_fits9 a).1, by omega, by omega, by omega, by omega⟩
    · exact ⟨⟨by simp, by simp, by simp, by simp⟩, by simp⟩

set_option maxHeartbeats 800000 in
set_option maxRecDepth 100000 in
theorem specRunSchedule_is (a : Option Addr) (len cap : Nat) (rows : List (List I3)) (la : Option Addr) (n c : Nat) (ks : List Int) (w : World) (hC : Codes w a len cap rows) (hL : Ints .i64 w la n c ks) :
    Calls Tryd.prog 14 #[.agg #[.slice a len cap], .slice la n c] w fun e w' => RunGot e w' w.heap.size (runZ rows ks) (runF rows ks) (runC rows ks) ∧ Below w.heap.size w w' := by
  unfold runZ runF runC
  rw [hL.1]
  have bw : Below w.heap.size w ((w.alloc (.cells #[.slice a len cap] 25)).alloc (.cells #[.slice none 0 0, .slice none 0 0, .slice none 0 0, .slice none 0 0] 30)) := by go_grown
  have pP : Blk ((w.alloc (.cells #[.slice a len cap] 25)).alloc (.cells #[.slice none 0 0, .slice none 0 0, .slice none 0 0, .slice none 0 0] 30)) w.heap.size 25 [.slice a len cap] := blkOld _ (blkAt _ _ _ rfl)
  have pR : Blk ((w.alloc (.cells #[.slice a len cap] 25)).alloc (.cells #[.slice none 0 0, .slice none 0 0, .slice none 0 0, .slice none 0 0] 30)) (w.heap.size + 1) 30 [.slice none 0 0, .slice none 0 0, .slice none 0 0, .slice none 0 0] := blkAt _ _ _ (by simp)
  have hsU : w.heap.size + 1 < ((w.alloc (.cells #[.slice a len cap] 25)).alloc (.cells #[.slice none 0 0, .slice none 0 0, .slice none 0 0, .slice none 0 0] 30)).heap.size := pR.lt
  by_cases hn : 4096 < n
  · have hn' : (4096 : Int) < (n : Int) := by omega
    simp only [if_pos hn]
    clear hC hL hn pP
    go_enter Tryd.func14, Tryd.ntmps14
    go_wp2_with fail
    go_returns
    exact ⟨RunGot.mk9 ((none, 0, 0), (none, 0, 0), (none, 0, 0), (none, 0, 0)) _ rfl (own_nilV _ _) (by simpa [flat] using own_emptyB ((w.alloc (.cells #[.slice a len cap] 25)).alloc (.cells #[.slice none 0 0, .slice none 0 0, .slice none 0 0, .slice none 0 0] 30)) 40 3 w.heap.size (by simp; omega)), bel_trans bw (by go_grown)⟩
  simp only [if_neg hn]
  have hn' : ¬ (4096 : Int) < (n : Int) := by omega
  have kP := fun W (b : Below w.heap.size w W) => specProgramOK_is a len cap rows W (hC.below b)
  cases hp : progOk rows
  · rw [hp] at kP
    simp only [Bool.false_eq_true, if_false]
    clear hp hC hL hn
    go_enter Tryd.func14, Tryd.ntmps14
    go_wp2_with fail
    generalize ((w.alloc (.cells #[.slice a len cap] 25)).alloc (.cells #[.slice none 0 0, .slice none 0 0, .slice none 0 0, .slice none 0 0] 30)) = U at *
    go_wp2_with (first | refine wpList_load_blk rfl 25 _ rfl w.heap.size rfl pP _ Tryd.underlying25 rfl (by kernel_rfl) ?_)
    refine (kP _ bw).mono ?_
    rintro e w1 ⟨rfl, hb⟩
    replace bw := bel_trans bw hb
    replace pR := pR.below hb
    have ha : Below w1.heap.size w1 (w1.alloc (.cells #[] 40)) := by go_grown
    have q := own_emptyB w1 40 3 w.heap.size bw.size
    replace bw := bel_trans bw ha
    replace pR := pR.below ha
    clear hb kP pP ha
    go_wp2_with (first | refine wpList_store_blk rfl 30 _ _ rfl (w.heap.size + 1) [.slice none 0 0, .slice none 0 0, .slice none 0 0, .slice none 0 0] rfl rfl pR (by kernel_rfl) rfl rfl ?_)
    intro U2 pR2 g2
    have bz := bw.grown g2 bw.size (fun k e => by cases e; omega)
    have q2 := q.kept g2 (own_apart_blk q pR (by decide))
    clear bw g2 pR q
    go_wp2_with fail
    refine bodyPost_ret (results_blk3 Tryd.results14 _ _ _ _ _ _ rfl pR2.out Tryd.underlying30 rfl (by kernel_rfl)) rfl ?_
    exact ⟨RunGot.mk9 ((none, 0, 0), (none, 0, 0), (none, 0, 0), (none, 0, 0)) _ rfl (own_nilV _ _) q2, bz⟩
  · rw [hp] at kP
    simp only [if_true]
    obtain ⟨rfl, cs, hR⟩ := hC.rowsAt hp
    have kR := fun (W : World) (b : Below w.heap.size w W) => l04Run_is (cap := cap) (hR.below b) hp (hL.below b) (by omega)
    rw [runS_runJ] at kR
    simp only at kR
    generalize mergeB (runI rows zeroV [] ks).2.1 (deadM rows (runI rows zeroV [] ks).1) = fs at *
    generalize (runI rows zeroV [] ks).1 = z at *
    generalize (runI rows zeroV [] ks).2.2 = cd at *
    clear hp hC hL hn hR
    go_enter Tryd.func14, Tryd.ntmps14
    go_wp2_with fail
    generalize ((w.alloc (.cells #[.slice a 3 cap] 25)).alloc (.cells #[.slice none 0 0, .slice none 0 0, .slice none 0 0, .slice none 0 0] 30)) = U at *
    go_wp2_with (first | refine wpList_load_blk rfl 25 _ rfl w.heap.size rfl pP _ Tryd.underlying25 rfl (by kernel_rfl) ?_)
    refine (kP _ bw).mono ?_
    rintro e w1 ⟨rfl, hb⟩
    replace bw := bel_trans bw hb
    replace pP := pP.below hb
    replace pR := pR.below hb
    clear hb kP
    go_wp2_with (first | refine wpList_load_blk rfl 25 _ rfl w.heap.size rfl pP _ Tryd.underlying25 rfl (by kernel_rfl) ?_)
    refine (kR _ bw).mono ?_
    rintro e w2 ⟨⟨⟨⟨t0a, t0n, t0c⟩, ⟨t1a, t1n, t1c⟩, ⟨t2a, t2n, t2c⟩, ⟨t3a, t3n, t3c⟩⟩, v, rfl, hO, q⟩, hb⟩
    have ut : S4.val ((t0a, t0n, t0c), (t1a, t1n, t1c), (t2a, t2n, t2c), (t3a, t3n, t3c)) = .agg #[.slice t0a t0n t0c, .slice t1a t1n t1c, .slice t2a t2n t2c, .slice t3a t3n t3c] := rfl
    rw [ut]
    replace hO := hO.lowerB (B' := w.heap.size) bw.size
    replace q := own_lowerB (B' := w.heap.size) q bw.size
    replace bw := bel_trans bw hb
    replace pR := pR.below hb
    clear hb kR pP ut
    go_wp2_with (first | refine wpList_store_blk rfl 30 _ _ rfl (w.heap.size + 1) [.slice t0a t0n t0c, .slice t1a t1n t1c, .slice t2a t2n t2c, .slice t3a t3n t3c] rfl rfl pR (by kernel_rfl) rfl rfl ?_)
    intro U2 pR2 g2
    have bz := bw.grown g2 bw.size (fun k e => by cases e; omega)
    have q2 := q.kept g2 (own_apart_blk q pR (by decide))
    have hO2 := hO.kept9 g2 pR (by decide)
    clear bw g2 pR q hO
    go_wp2_with fail
    refine bodyPost_ret (results_blk3 Tryd.results14 _ _ _ _ _ _ rfl pR2.out Tryd.underlying30 rfl (by kernel_rfl)) rfl ?_
    exact ⟨RunGot.mk9 ((t0a, t0n, t0c), (t1a, t1n, t1c), (t2a, t2n, t2c), (t3a, t3n, t3c)) _ rfl hO2 q2, bz⟩
end Go.Proofs.YtmhngodbnoonhaaDoor


/-
  The specification's drawn bugs.
-/
namespace Go.Proofs.YtmhngodbnoonhaaDoor
open Go.RowKit
set_option linter.unusedVariables false
set_option linter.unusedSimpArgs false

theorem Blk.wentB {p g t : Nat} {w w' : World} {cs : List Value} (h : Blk w g t cs) (hw : Went p w w') (hne : g ≠ p) : Blk w' g t cs := h.kept hw (fun e => hne (by cases e; rfl))

theorem bugsD_of_own {w : World} {B : Nat} {v : Value} {xs : List I3} (h : w.ownsRow B 40 3 v xs.length (flat xs)) (hf : ∀ x ∈ xs, I3.fits x) : ∃ a cap, v = .slice a xs.length cap ∧ Instrs w a xs.length cap xs := by
  rcases h.2 with ⟨rfl, h0⟩ | ⟨g, cap, cur, hv, _⟩
  · exact ⟨none, 0, by rw [h0], rfl, by omega, by unfold maxLen; omega, hf, .inl h0⟩
  · subst hv
    exact ⟨_, _, rfl, Instrs.of_owns h rfl hf rfl⟩
theorem okBD_cases {x : I3} (h : okB x = true) : x = (14, 0, 0) ∨ ∃ k a b : Nat, (k = 12 ∨ k = 13) ∧ a < 3 ∧ b < 6 ∧ x = ((k : Int), (a : Int), (b : Int)) := by
  obtain ⟨c, a, b⟩ := x
  unfold okB at h
  simp only at h
  split at h
  · rename_i e
    simp at h
    exact .inl (by rw [e, h.1, h.2])
  · split at h
    · rename_i e
      simp [inB_true] at h
      refine .inr ⟨c.toNat, a.toNat, b.toNat, by omega, by omega, by omega, ?_⟩
      rw [Int.toNat_of_nonneg (by omega), Int.toNat_of_nonneg (by omega), Int.toNat_of_nonneg (by omega)]
    · cases h
theorem okB_fits {x : I3} (h : okB x = true) : I3.fits x := by
  rcases okBD_cases h with rfl | ⟨k, a, b, hk, ha, hb, rfl⟩
  · unfold I3.fits; decide
  · have h2 : a = 0 ∨ a = 1 ∨ a = 2 := by omega
    have h3 : b = 0 ∨ b = 1 ∨ b = 2 ∨ b = 3 ∨ b = 4 ∨ b = 5 := by omega
    rcases hk with rfl | rfl <;> rcases h2 with rfl | rfl | rfl <;> rcases h3 with rfl | rfl | rfl | rfl | rfl | rfl <;> (unfold I3.fits; decide)
end Go.Proofs.YtmhngodbnoonhaaDoor


/-
  The laws' sameBugs and hasBug.
-/
namespace Go.Proofs.YtmhngodbnoonhaaDoor
open Go.RowKit
set_option linter.unusedVariables false
set_option linter.unusedSimpArgs false

set_option maxHeartbeats 2000000 in
set_option maxRecDepth 100000 in
theorem sameBugs_same (a0 a1 : Option Addr) (n c0 c1 : Nat) (xs : List I3) (w : World) (h0 : Instrs w a0 n c0 xs) (h1 : Instrs w a1 n c1 xs) (hn : n ≤ 1000000) :
    Calls Tryd.prog 19 #[.slice a0 n c0, .slice a1 n c1] w fun e w' => e = .returned (.bool true) ∧ Below w.heap.size w w' := by
  have hl := h0.1
  go_enter Tryd.func19, Tryd.ntmps19
  go_wp2_with fail
  go_loopw [5] (fun si wr => ∃ k : Nat, k ≤ n ∧ si = .int .i64 k ∧ Below w.heap.size w wr) (fun si _ => n - (intOf si).toNat)
  case atStart => exact ⟨0, by omega, rfl, Below.refl _ _⟩
  case round =>
    obtain ⟨k, hk, rfl, bw⟩ := hrel
    by_cases hlt : k < n
    · obtain ⟨_, _, _, _, hcase⟩ := h0.below bw
      rcases hcase with e0 | ⟨b, off, rfl, hb, hc⟩
      · omega
      obtain ⟨d0, d1, d2⟩ := hc k hlt
      clear hc hb
      obtain ⟨_, _, _, _, hcase⟩ := h1.below bw
      rcases hcase with e0 | ⟨b', off', rfl, hb, hc⟩
      · omega
      obtain ⟨f0, f1, f2⟩ := hc k hlt
      clear hc hb
      generalize xs.getD k (0, 0, 0) = x at d0 d1 d2 f0 f1 f2
      obtain ⟨x0, x1, x2⟩ := x
      simp only at d0 d1 d2 f0 f1 f2
      have hlt' : (k : Int) < (n : Int) := by omega
      have hk0 : (0 : Int) ≤ (k : Int) := by omega
      have q0 : (x0 == x0) = true := by simp
      have q1 : (x1 == x1) = true := by simp
      have q2 : (x2 == x2) = true := by simp
      go_wp2_with fail
      go_quiet (fail)
      have bwd := below_drewN bw nq
      generalize wr.drewN nq = U at *
      clear d0 d1 d2 f0 f1 f2 bw q0 q1 q2
      go_wp2
      go_roundw
      case rel => exact ⟨k + 1, by omega, by go_num, bwd⟩
      case measure => simp [intOf]; omega
    · obtain rfl : k = n := by omega
      go_wp2
      go_ret
      exact ⟨rfl, bw⟩

/-- Is a bug in a list. -/
def hasB : List I3 → I3 → Bool
  | [], _ => false
  | y :: l, x => decide (y = x) || hasB l x
theorem hasB_iff {x : I3} : ∀ {l : List I3}, hasB l x = true ↔ x ∈ l
  | [] => by simp [hasB]
  | y :: l => by
    have h := hasB_iff (x := x) (l := l)
    show (decide (y = x) || hasB l x) = true ↔ _
    rw [Bool.or_eq_true, h, List.mem_cons, decide_eq_true_iff]
    exact or_congr ⟨Eq.symm, Eq.symm⟩ Iff.rfl
theorem hasB_step {xs : List I3} {k : Nat} (hk : k < xs.length) (y : I3) : hasB (xs.drop k) y = (decide (xs.getD k (0, 0, 0) = y) || hasB (xs.drop (k + 1)) y) := by
  rw [List.drop_eq_getElem_cons hk]
  simp [hasB, List.getD, List.getElem?_eq_getElem hk]

end Go.Proofs.YtmhngodbnoonhaaDoor


/-
  The specification's SameVm: both have their shape, and their keys are one.
-/
namespace Go.Proofs.YtmhngodbnoonhaaDoor
open Go.RowKit

/-- What SameVm answers. -/
def sameV (m q : V4) : Bool := shapeOk m && (shapeOk q && ((keyT m).toList == (keyT q).toList))

end Go.Proofs.YtmhngodbnoonhaaDoor
