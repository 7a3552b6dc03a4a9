/-
  Joined: FrP, RsS, SmB, Vm5, SameVmI.
-/
import Derived.Test.YtmhngodbnoonhaaDoorProg
import Derived.Deep.RegionHeld3
import Derived.KernelRfl
import Derived.Tactics
import Derived.WalkKit
import Derived.WalkSpells
import Derived.WalkLawsBesides
import Derived.RegionTactic
import Derived.BigQuiet
import Derived.Deep.QuietTactic
import Derived.Deep.Slices
import Derived.Deep.Strs
import Derived.Deep.Fields
import Derived.ChangeSame
import Derived.ChangeSlices
import Derived.Lib.SmallJoins
import Derived.Handy
import Derived.OwnWalk
import Derived.Shelf.Abstract
import Derived.Laws.BytesArg
import Derived.Deep.RegionLaw
import Derived.Laws.OwnMore
import Derived.BigRegion
import Derived.Laws.CopyOwn
import Derived.Laws.Tables
import Derived.Maps.AppendAt
import Derived.Laws.RangeString
import Derived.Laws.RangeAny
import Derived.Laws.Bits
import Derived.Lib.FieldsP
import Derived.Stop.Asserts
import Derived.Recover
import Derived.Shelf.SlSortCmp.NoneTotal
import Derived.Shelf.Spec.SlicesGrow
import Derived.Laws.AppendOwnNone
import Derived.Lib.SliceRun
import Derived.Test.YtmhngodbnoonhaaDoorK01
import Derived.Test.YtmhngodbnoonhaaDoorK02
import Derived.Test.YtmhngodbnoonhaaDoorK04
import Derived.Test.YtmhngodbnoonhaaDoorK06
import Derived.Test.YtmhngodbnoonhaaDoorK07
import Derived.Test.YtmhngodbnoonhaaDoorK09
import Derived.Test.YtmhngodbnoonhaaDoorK10
import Derived.Test.YtmhngodbnoonhaaDoorK11
import Derived.Test.YtmhngodbnoonhaaDoorK12
import Derived.Test.YtmhngodbnoonhaaDoorK14
import Derived.Test.YtmhngodbnoonhaaDoorK23
import Derived.Test.YtmhngodbnoonhaaDoorK25
import Derived.Test.YtmhngodbnoonhaaDoorK27
import Derived.Test.YtmhngodbnoonhaaDoorK29
import Derived.Test.YtmhngodbnoonhaaDoorK30
import Derived.Test.YtmhngodbnoonhaaDoorK32
import Derived.Test.YtmhngodbnoonhaaDoorK33
import Derived.Test.YtmhngodbnoonhaaDoorK35
import Derived.Test.YtmhngodbnoonhaaDoorK40
import Derived.Test.YtmhngodbnoonhaaDoorK41
import Derived.Test.YtmhngodbnoonhaaDoorK42

/-
  What FnRun asks, in plain words.
-/
namespace Go.Proofs.YtmhngodbnoonhaaDoor
open Go.RowKit
set_option linter.unusedVariables false

theorem goes_run {rows : List (List I3)} {ks : List Int} {m : V4} (hp : progOk rows = true) (h : goesTo rows ks m) (hl : ks.length ≤ 14) : runZ rows ks = m ∧ runC rows ks = 0 ∧ shapeOk m = true := by
  obtain ⟨h1, h2⟩ := h
  have h9 : ¬ 4096 < ks.length := by omega
  unfold runZ runC
  simp only [if_neg h9, if_pos hp]
  refine ⟨h2, h1, ?_⟩
  rw [← h2]
  exact (runI_ok hp ks zeroV [] zero_shape (by simp)).1
theorem goes_beyond {rows : List (List I3)} {ks : List Int} {m : V4} (hp : progOk rows = true) (h : goesTo rows ks m) (hl : ks.length ≤ 14) : runC rows (ks ++ [3]) = 4 := by
  obtain ⟨h1, h2⟩ := h
  unfold runC
  rw [if_neg (by rw [List.length_append]; simp; omega), if_pos hp, runI_snoc rows 3 ks zeroV [] h1]
  have hz : haltM rows (runI rows zeroV [] ks).1 3 = 4 := by unfold haltM; rw [if_neg (by omega)]
  show (if haltM rows (runI rows zeroV [] ks).1 3 = 0 then _ else _ : V4 × List I3 × Int).2.2 = 4
  rw [if_neg (by rw [hz]; decide)]
  exact hz
theorem goes_witness {rows : List (List I3)} {ks : List Int} {m : V4} {y : I3} (hp : progOk rows = true) (h : goesTo rows ks m) (hl : ks.length ≤ 14) (hy : y ∈ runF rows ks) : witV rows ks y = true ∧ witC rows ks y = 0 := by
  have hc := (goes_run hp h hl).2.1
  have ho := (runF_ok rows ks).1 y hy
  have h9 : ¬ 4096 < ks.length := by omega
  unfold witV witC
  rw [hp, ho, hc]
  simp only [if_neg h9]
  simp only [Bool.and_self, if_true, decide_true, Bool.true_and, and_true]
  exact hasW_iff.2 hy
theorem halt_step {rows : List (List I3)} {m : V4} {k : Int} (hp : progOk rows = true) (hs : shapeOk m = true) (hz : haltM rows m k = 0) : stepZ rows m k = (goM rows m k).1 ∧ stepC rows m k = 0 := by
  obtain ⟨h0, h2, hd, hc⟩ := halt_can hz
  have hk3 : (0 : Int) ≤ k ∧ k < 3 := by omega
  unfold stepZ stepC goM
  simp only [hp, hs, Bool.and_self, if_true, hk3, and_self, hd, hc]
theorem getD_memF {xs : List I3} {k : Nat} (hk : k < xs.length) : xs.getD k (0, 0, 0) ∈ xs := by
  simp only [List.getD, List.getElem?_eq_getElem hk, Option.getD_some]
  exact List.getElem_mem hk
end Go.Proofs.YtmhngodbnoonhaaDoor


/-
  The specification's RunSchedule.
-/
namespace Go.Proofs.YtmhngodbnoonhaaDoor
open Go.RowKit
set_option linter.unusedVariables false
set_option linter.unusedSimpArgs false

theorem runS_runJ (rows : List (List I3)) (ks : List Int) : runS rows zeroV [] ks = ((runI rows zeroV [] ks).1, mergeB (runI rows zeroV [] ks).2.1 (deadM rows (runI rows zeroV [] ks).1), (runI rows zeroV [] ks).2.2) := by
  have h0 : ([] : List I3) = mergeB [] (deadM rows zeroV) := by unfold deadM; rw [stuck_zero]; rfl
  obtain ⟨h1, h2, h3⟩ := run_same (rows := rows) ks zeroV [] [] h0
  rw [← h1, ← h2] at *
  exact Prod.ext h1 (Prod.ext h3 rfl)
set_option maxHeartbeats 800000 in
set_option maxRecDepth 100000 in
theorem specRunSchedule_is (a : Option Addr) (len cap : Nat) (rows : List (List I3)) (la : Option Addr) (n c : Nat) (ks : List Int) (w : World) (hC : Codes w a len cap rows) (hL : Ints .i64 w la n c ks) :
    Calls Tryd.prog 14 #[.agg #[.slice a len cap], .slice la n c] w fun e w' => RunGot e w' w.heap.size (runZ rows ks) (runF rows ks) (runC rows ks) ∧ Below w.heap.size w w' := by
  unfold runZ runF runC
  rw [hL.1]
  have bw : Below w.heap.size w ((w.alloc (.cells #[.slice a len cap] 25)).alloc (.cells #[.slice none 0 0, .slice none 0 0, .slice none 0 0, .slice none 0 0] 30)) := by go_grown
  have pP : Blk ((w.alloc (.cells #[.slice a len cap] 25)).alloc (.cells #[.slice none 0 0, .slice none 0 0, .slice none 0 0, .slice none 0 0] 30)) w.heap.size 25 [.slice a len cap] := blkOld _ (blkAt _ _ _ rfl)
  have pR : Blk ((w.alloc (.cells #[.slice a len cap] 25)).alloc (.cells #[.slice none 0 0, .slice none 0 0, .slice none 0 0, .slice none 0 0] 30)) (w.heap.size + 1) 30 [.slice none 0 0, .slice none 0 0, .slice none 0 0, .slice none 0 0] := blkAt _ _ _ (by simp)
  have hsU : w.heap.size + 1 < ((w.alloc (.cells #[.slice a len cap] 25)).alloc (.cells #[.slice none 0 0, .slice none 0 0, .slice none 0 0, .slice none 0 0] 30)).heap.size := pR.lt
  by_cases hn : 4096 < n
  · have hn' : (4096 : Int) < (n : Int) := by omega
    simp only [if_pos hn]
    clear hC hL hn pP
    go_enter Tryd.func14, Tryd.ntmps14
    go_wp2_with fail
    go_returns
    exact ⟨RunGot.mk9 ((none, 0, 0), (none, 0, 0), (none, 0, 0), (none, 0, 0)) _ rfl (own_nilV _ _) (by simpa [flat] using own_emptyB ((w.alloc (.cells #[.slice a len cap] 25)).alloc (.cells #[.slice none 0 0, .slice none 0 0, .slice none 0 0, .slice none 0 0] 30)) 40 3 w.heap.size (by simp; omega)), bel_trans bw (by go_grown)⟩
  simp only [if_neg hn]
  have hn' : ¬ (4096 : Int) < (n : Int) := by omega
  have kP := fun W (b : Below w.heap.size w W) => specProgramOK_is a len cap rows W (hC.below b)
  cases hp : progOk rows
  · rw [hp] at kP
    simp only [Bool.false_eq_true, if_false]
    clear hp hC hL hn
    go_enter Tryd.func14, Tryd.ntmps14
    go_wp2_with fail
    generalize ((w.alloc (.cells #[.slice a len cap] 25)).alloc (.cells #[.slice none 0 0, .slice none 0 0, .slice none 0 0, .slice none 0 0] 30)) = U at *
    go_wp2_with (first | refine wpList_load_blk rfl 25 _ rfl w.heap.size rfl pP _ Tryd.underlying25 rfl (by kernel_rfl) ?_)
    refine (kP _ bw).mono ?_
    rintro e w1 ⟨rfl, hb⟩
    replace bw := bel_trans bw hb
    replace pR := pR.below hb
    have ha : Below w1.heap.size w1 (w1.alloc (.cells #[] 40)) := by go_grown
    have q := own_emptyB w1 40 3 w.heap.size bw.size
    replace bw := bel_trans bw ha
    replace pR := pR.below ha
    clear hb kP pP ha
    go_wp2_with (first | refine wpList_store_blk rfl 30 _ _ rfl (w.heap.size + 1) [.slice none 0 0, .slice none 0 0, .slice none 0 0, .slice none 0 0] rfl rfl pR (by kernel_rfl) rfl rfl ?_)
    intro U2 pR2 g2
    have bz := bw.grown g2 bw.size (fun k e => by cases e; omega)
    have q2 := q.kept g2 (own_apart_blk q pR (by decide))
    clear bw g2 pR q
    go_wp2_with fail
    refine bodyPost_ret (results_blk3 Tryd.results14 _ _ _ _ _ _ rfl pR2.out Tryd.underlying30 rfl (by kernel_rfl)) rfl ?_
    exact ⟨RunGot.mk9 ((none, 0, 0), (none, 0, 0), (none, 0, 0), (none, 0, 0)) _ rfl (own_nilV _ _) q2, bz⟩
  · rw [hp] at kP
    simp only [if_true]
    obtain ⟨rfl, cs, hR⟩ := hC.rowsAt hp
    have kR := fun (W : World) (b : Below w.heap.size w W) => l04Run_is (cap := cap) (hR.below b) hp (hL.below b) (by omega)
    rw [runS_runJ] at kR
    simp only at kR
    generalize mergeB (runI rows zeroV [] ks).2.1 (deadM rows (runI rows zeroV [] ks).1) = fs at *
    generalize (runI rows zeroV [] ks).1 = z at *
    generalize (runI rows zeroV [] ks).2.2 = cd at *
    clear hp hC hL hn hR
    go_enter Tryd.func14, Tryd.ntmps14
    go_wp2_with fail
    generalize ((w.alloc (.cells #[.slice a 3 cap] 25)).alloc (.cells #[.slice none 0 0, .slice none 0 0, .slice none 0 0, .slice none 0 0] 30)) = U at *
    go_wp2_with (first | refine wpList_load_blk rfl 25 _ rfl w.heap.size rfl pP _ Tryd.underlying25 rfl (by kernel_rfl) ?_)
    refine (kP _ bw).mono ?_
    rintro e w1 ⟨rfl, hb⟩
    replace bw := bel_trans bw hb
    replace pP := pP.below hb
    replace pR := pR.below hb
    clear hb kP
    go_wp2_with (first | refine wpList_load_blk rfl 25 _ rfl w.heap.size rfl pP _ Tryd.underlying25 rfl (by kernel_rfl) ?_)
    refine (kR _ bw).mono ?_
    rintro e w2 ⟨⟨⟨⟨t0a, t0n, t0c⟩, ⟨t1a, t1n, t1c⟩, ⟨t2a, t2n, t2c⟩, ⟨t3a, t3n, t3c⟩⟩, v, rfl, hO, q⟩, hb⟩
    have ut : S4.val ((t0a, t0n, t0c), (t1a, t1n, t1c), (t2a, t2n, t2c), (t3a, t3n, t3c)) = .agg #[.slice t0a t0n t0c, .slice t1a t1n t1c, .slice t2a t2n t2c, .slice t3a t3n t3c] := rfl
    rw [ut]
    replace hO := hO.lowerB (B' := w.heap.size) bw.size
    replace q := own_lowerB (B' := w.heap.size) q bw.size
    replace bw := bel_trans bw hb
    replace pR := pR.below hb
    clear hb kR pP ut
    go_wp2_with (first | refine wpList_store_blk rfl 30 _ _ rfl (w.heap.size + 1) [.slice t0a t0n t0c, .slice t1a t1n t1c, .slice t2a t2n t2c, .slice t3a t3n t3c] rfl rfl pR (by kernel_rfl) rfl rfl ?_)
    intro U2 pR2 g2
    have bz := bw.grown g2 bw.size (fun k e => by cases e; omega)
    have q2 := q.kept g2 (own_apart_blk q pR (by decide))
    have hO2 := hO.kept9 g2 pR (by decide)
    clear bw g2 pR q hO
    go_wp2_with fail
    refine bodyPost_ret (results_blk3 Tryd.results14 _ _ _ _ _ _ rfl pR2.out Tryd.underlying30 rfl (by kernel_rfl)) rfl ?_
    exact ⟨RunGot.mk9 ((t0a, t0n, t0c), (t1a, t1n, t1c), (t2a, t2n, t2c), (t3a, t3n, t3c)) _ rfl hO2 q2, bz⟩
end Go.Proofs.YtmhngodbnoonhaaDoor


/-
  The laws' sameBugs and hasBug.
-/
namespace Go.Proofs.YtmhngodbnoonhaaDoor
open Go.RowKit
set_option linter.unusedVariables false
set_option linter.unusedSimpArgs false

set_option maxHeartbeats 2000000 in
set_option maxRecDepth 100000 in
theorem sameBugs_same (a0 a1 : Option Addr) (n c0 c1 : Nat) (xs : List I3) (w : World) (h0 : Instrs w a0 n c0 xs) (h1 : Instrs w a1 n c1 xs) (hn : n ≤ 1000000) :
    Calls Tryd.prog 19 #[.slice a0 n c0, .slice a1 n c1] w fun e w' => e = .returned (.bool true) ∧ Below w.heap.size w w' := by
  have hl := h0.1
  go_enter Tryd.func19, Tryd.ntmps19
  go_wp2_with fail
  go_loopw [5] (fun si wr => ∃ k : Nat, k ≤ n ∧ si = .int .i64 k ∧ Below w.heap.size w wr) (fun si _ => n - (intOf si).toNat)
  case atStart => exact ⟨0, by omega, rfl, Below.refl _ _⟩
  case round =>
    obtain ⟨k, hk, rfl, bw⟩ := hrel
    by_cases hlt : k < n
    · obtain ⟨_, _, _, _, hcase⟩ := h0.below bw
      rcases hcase with e0 | ⟨b, off, rfl, hb, hc⟩
      · omega
      obtain ⟨d0, d1, d2⟩ := hc k hlt
      clear hc hb
      obtain ⟨_, _, _, _, hcase⟩ := h1.below bw
      rcases hcase with e0 | ⟨b', off', rfl, hb, hc⟩
      · omega
      obtain ⟨f0, f1, f2⟩ := hc k hlt
      clear hc hb
      generalize xs.getD k (0, 0, 0) = x at d0 d1 d2 f0 f1 f2
      obtain ⟨x0, x1, x2⟩ := x
      simp only at d0 d1 d2 f0 f1 f2
      have hlt' : (k : Int) < (n : Int) := by omega
      have hk0 : (0 : Int) ≤ (k : Int) := by omega
      have q0 : (x0 == x0) = true := by simp
      have q1 : (x1 == x1) = true := by simp
      have q2 : (x2 == x2) = true := by simp
      go_wp2_with fail
      go_quiet (fail)
      have bwd := below_drewN bw nq
      generalize wr.drewN nq = U at *
      clear d0 d1 d2 f0 f1 f2 bw q0 q1 q2
      go_wp2
      go_roundw
      case rel => exact ⟨k + 1, by omega, by go_num, bwd⟩
      case measure => simp [intOf]; omega
    · obtain rfl : k = n := by omega
      go_wp2
      go_ret
      exact ⟨rfl, bw⟩

end Go.Proofs.YtmhngodbnoonhaaDoor


/-
  The specification's SameVm: both have their shape, and their keys are one.
-/
namespace Go.Proofs.YtmhngodbnoonhaaDoor
open Go.RowKit

def sameV (m q : V4) : Bool := shapeOk m && (shapeOk q && ((keyT m).toList == (keyT q).toList))

end Go.Proofs.YtmhngodbnoonhaaDoor


/-
  impl.SameVm: slices.Equal at integers; keys tell states apart; FnExactSameVm's other side.
-/
namespace Go.Proofs.YtmhngodbnoonhaaDoor
open Go.RowKit

theorem digit_inj {a b : Int} (ha : 0 ≤ a ∧ a ≤ 9) (hb : 0 ≤ b ∧ b ≤ 9) (h : UInt8.ofNat (48 + a).toNat = UInt8.ofNat (48 + b).toNat) : a = b := by
  have := congrArg UInt8.toNat h
  rw [UInt8.toNat_ofNat', UInt8.toNat_ofNat'] at this
  omega
theorem digits_inj : ∀ {xs ys : List Int}, (∀ z ∈ xs, 0 ≤ z ∧ z ≤ 9) → (∀ z ∈ ys, 0 ≤ z ∧ z ≤ 9) → (xs.map fun z => 48 + z).map (fun n : Int => UInt8.ofNat n.toNat) = (ys.map fun z => 48 + z).map (fun n : Int => UInt8.ofNat n.toNat) → xs = ys
  | [], [], _, _, _ => rfl
  | [], _ :: _, _, _, h => by simp at h
  | _ :: _, [], _, _, h => by simp at h
  | x :: xs, y :: ys, hx, hy, h => by
    simp only [List.map_cons, List.cons.injEq] at h
    rw [digit_inj (hx x (by simp)) (hy y (by simp)) h.1, digits_inj (fun z hz => hx z (by simp [hz])) (fun z hz => hy z (by simp [hz])) h.2]
theorem keyT_inj {m q : V4} (hm : shapeOk m = true) (hq : shapeOk q = true) (h : (keyT m).toList = (keyT q).toList) : m = q := by
  obtain ⟨l0, l1, l2, l3, d⟩ := shape_parts hm
  obtain ⟨k0, k1, k2, k3, e⟩ := shape_parts hq
  have hall : allOf m = allOf q := by
    refine digits_inj d e ?_
    rw [ByteArray.toList_eq, ByteArray.toList_eq] at h
    exact h
  unfold allOf at hall
  obtain ⟨h1, e3⟩ := List.append_inj hall (by simp; omega)
  obtain ⟨h2, e2⟩ := List.append_inj h1 (by simp; omega)
  obtain ⟨e0, e1⟩ := List.append_inj h2 (by omega)
  obtain ⟨a, b, c, f⟩ := m
  obtain ⟨a', b', c', f'⟩ := q
  simp only at e0 e1 e2 e3
  rw [e0, e1, e2, e3]
theorem sameV_eq (m q : V4) : sameV m q = (shapeOk m && (shapeOk q && decide (m = q))) := by
  unfold sameV
  cases hm : shapeOk m
  · rfl
  cases hq : shapeOk q
  · rfl
  by_cases h : m = q
  · subst h; simp
  · have : ¬ (keyT m).toList = (keyT q).toList := fun e => h (keyT_inj hm hq e)
    simp [h, this]

theorem bel_dN (w : World) (n : Nat) : Below w.heap.size w (w.drewN n) := ⟨rfl, rfl, rfl, Nat.le_refl _, fun _ _ => rfl⟩

set_option maxHeartbeats 1000000 in
set_option maxRecDepth 100000 in
theorem equalI_is (a a' : Option Addr) (len cap cap' : Nat) (xs ys : List Int) (w : World) (h : Ints .i64 w a len cap xs) (h' : Ints .i64 w a' len cap' ys) (hpos : len ≠ 0) :
    Calls Tryd.prog 64 #[.slice a len cap, .slice a' len cap'] w fun e w' => e = .returned (.bool (decide (xs = ys))) ∧ Below w.heap.size w w' := by
  obtain ⟨hl, hlc, hcm, hcase⟩ := h
  obtain ⟨hl', hlc', hcm', hcase'⟩ := h'
  unfold maxLen at hcm hcm'
  rcases hcase with h0' | ⟨b, off, rfl, hblt, hcell⟩
  · exact absurd h0' hpos
  rcases hcase' with h0' | ⟨b', off', rfl, hblt', hcell'⟩
  · exact absurd h0' hpos
  have hne : ((len : Int) != (len : Int)) = false := by simp
  obtain ⟨fin, hfin⟩ : ∃ fin, fin = decide (xs = ys) := ⟨_, rfl⟩
  rw [← hfin]
  have HF : Hid (fin = decide (xs = ys)) := hfin
  clear hfin
  go_enter Tryd.func64, Tryd.ntmps64
  go_wp2
  go_loopw [13] (fun si wr => ∃ (k : Nat), k ≤ len ∧ si = .int .i64 k ∧ Hid (xs.take k = ys.take k) ∧ Below w.heap.size w wr) (fun si _ => len - (intOf si).toNat)
  case atStart => exact ⟨0, by omega, rfl, by simp [Hid], Below.refl _ _⟩
  case round =>
    obtain ⟨k, hk, rfl, hH', hbel⟩ := hrel
    by_cases hlt : k < len
    · have c0 := hcell k hlt
      have e0 := hcell' k hlt
      rw [← hbel.cell (p := ⟨b, _, none⟩) hblt] at c0
      rw [← hbel.cell (p := ⟨b', _, none⟩) hblt'] at e0
      have hlt' : (k : Int) < (len : Int) := by omega
      have hk0 : (0 : Int) ≤ (k : Int) := by omega
      have hxg : Hid (xs.getD k 0 = xs[k]'(by omega) ∧ ys.getD k 0 = ys[k]'(by omega)) := ⟨by simp [List.getD, hl, hlt], by simp [List.getD, hl', hlt]⟩
      by_cases hxy : xs.getD k 0 = ys.getD k 0
      · have hH2 : Hid (xs.take (k + 1) = ys.take (k + 1)) := by
          rw [Hid, List.take_succ_eq_append_getElem (by omega), List.take_succ_eq_append_getElem (by omega), hH'.out, ← hxg.out.1, ← hxg.out.2, hxy]
        rw [← hxy] at e0
        clear hcell hcell' hxg hxy hH'
        generalize xs.getD k 0 = x at c0 e0
        have hxx : (x != x) = false := by simp
        go_wp2_with fail
        go_quiet (fail)
        have hb2 : Below w.heap.size w (wr.drewN nq) := bel_trans hbel (bel_dN _ _)
        go_wp2
        go_roundw
        case rel => exact ⟨k + 1, by omega, by go_num, hH2, hb2⟩
        case measure => simp [intOf]; omega
      · obtain rfl : fin = false := by
          rw [HF.out, decide_eq_false_iff_not]
          intro h
          subst h
          exact hxy rfl
        clear hcell hcell' hxg hH' HF
        generalize xs.getD k 0 = x at c0 hxy
        generalize ys.getD k 0 = y at e0 hxy
        have hxx : (x != y) = true := by simp [hxy]
        have hb2 : ∀ nq, Below w.heap.size w (wr.drewN nq) := fun nq => bel_trans hbel (bel_dN _ _)
        go_wp2_with fail
        go_quiet (fail)
        go_wp2
        go_ret
        exact ⟨rfl, hb2 _⟩
    · obtain rfl : k = len := by omega
      obtain rfl : fin = true := by
        rw [HF.out, decide_eq_true_eq]
        have h9 := hH'.out
        rwa [List.take_of_length_le (by omega), List.take_of_length_le (by omega)] at h9
      clear hcell hcell' hH' HF
      go_wp2
      go_ret
      exact ⟨rfl, hbel⟩

set_option maxHeartbeats 8000000 in
set_option maxRecDepth 100000 in
theorem implSameVm_is (s : S4) (m : V4) (t : S4) (q : V4) (w : World) (hA : Vmem w s m) (hB : Vmem w t q) (hV : VmShape w) :
    Calls Tryd.prog 18 #[s.val, t.val] w fun e w' => e = .returned (.bool (sameV m q)) ∧ Below w.heap.size w w' := by
  have kA := fun w h => right_is s m w h
  have kB := fun w h => right_is t q w h
  have kLA := fun w => lists_is s w
  have kLB := fun w => lists_is t w
  have hMA := fun (W : World) (hb : Below w.heap.size w W) => hA.below hb
  have hMB := fun (W : World) (hb : Below w.heap.size w W) => hB.below hb
  rw [sameV_eq]
  have hpA := fun h : shapeOk m = true => shape_parts h
  have hpB := fun h : shapeOk q = true => shape_parts h
  obtain ⟨⟨i0, _⟩, ⟨i1, _⟩, ⟨i2, _⟩, ⟨i3, _⟩⟩ := hA
  obtain ⟨⟨j0, _⟩, ⟨j1, _⟩, ⟨j2, _⟩, ⟨j3, _⟩⟩ := hB
  obtain ⟨⟨a0, n0, c0⟩, ⟨a1, n1, c1⟩, ⟨a2, n2, c2⟩, ⟨a3, n3, c3⟩⟩ := s
  obtain ⟨⟨b0, k0, d0⟩, ⟨b1, k1, d1⟩, ⟨b2, k2, d2⟩, ⟨b3, k3, d3⟩⟩ := t
  have uA : S4.val ((a0, n0, c0), (a1, n1, c1), (a2, n2, c2), (a3, n3, c3)) = .agg #[.slice a0 n0 c0, .slice a1 n1 c1, .slice a2 n2 c2, .slice a3 n3 c3] := rfl
  have uB : S4.val ((b0, k0, d0), (b1, k1, d1), (b2, k2, d2), (b3, k3, d3)) = .agg #[.slice b0 k0 d0, .slice b1 k1 d1, .slice b2 k2 d2, .slice b3 k3 d3] := rfl
  rw [uA] at kA kLA
  rw [uB] at kB kLB
  rw [uA, uB]
  clear uA uB
  have bw : Below w.heap.size w ((w.alloc (.cells #[.slice a0 n0 c0, .slice a1 n1 c1, .slice a2 n2 c2, .slice a3 n3 c3] 30)).alloc (.cells #[.slice b0 k0 d0, .slice b1 k1 d1, .slice b2 k2 d2, .slice b3 k3 d3] 30)) := by go_grown
  have pA : Blk ((w.alloc (.cells #[.slice a0 n0 c0, .slice a1 n1 c1, .slice a2 n2 c2, .slice a3 n3 c3] 30)).alloc (.cells #[.slice b0 k0 d0, .slice b1 k1 d1, .slice b2 k2 d2, .slice b3 k3 d3] 30)) w.heap.size 30 [.slice a0 n0 c0, .slice a1 n1 c1, .slice a2 n2 c2, .slice a3 n3 c3] := (Blk.new w _ [.slice a0 n0 c0, .slice a1 n1 c1, .slice a2 n2 c2, .slice a3 n3 c3]).below (by go_grown)
  have pB : Blk ((w.alloc (.cells #[.slice a0 n0 c0, .slice a1 n1 c1, .slice a2 n2 c2, .slice a3 n3 c3] 30)).alloc (.cells #[.slice b0 k0 d0, .slice b1 k1 d1, .slice b2 k2 d2, .slice b3 k3 d3] 30)) (w.heap.size + 1) 30 [.slice b0 k0 d0, .slice b1 k1 d1, .slice b2 k2 d2, .slice b3 k3 d3] := by
    have h9 := Blk.new (w.alloc (.cells #[.slice a0 n0 c0, .slice a1 n1 c1, .slice a2 n2 c2, .slice a3 n3 c3] 30)) 30 [.slice b0 k0 d0, .slice b1 k1 d1, .slice b2 k2 d2, .slice b3 k3 d3]
    rwa [World.size_alloc] at h9
  cases hx : shapeOk m
  · rw [hx] at kA
    go_enter Tryd.func18, Tryd.ntmps18
    go_wp2_with fail
    refine (kA _ (hMA _ bw) (hV.below bw)).mono ?_
    rintro e w1 ⟨rfl, hb⟩
    replace bw := bel_trans bw hb
    go_wp2
    go_ret
    exact ⟨rfl, bw⟩
  rw [hx] at kA
  cases hy : shapeOk q
  · rw [hy] at kB
    go_enter Tryd.func18, Tryd.ntmps18
    go_wp2_with fail
    refine (kA _ (hMA _ bw) (hV.below bw)).mono ?_
    rintro e w1 ⟨rfl, hb⟩
    replace bw := bel_trans bw hb
    replace pB := pB.below hb
    have g0 := pB.cell 0
    have g1 := pB.cell 1
    have g2 := pB.cell 2
    have g3 := pB.cell 3
    simp at g0 g1 g2 g3
    go_wp2_with fail
    refine (kB _ (hMB _ bw) (hV.below bw)).mono ?_
    rintro e w2 ⟨rfl, hb2⟩
    replace bw := bel_trans bw hb2
    clear g0 g1 g2 g3
    go_wp2
    go_ret
    exact ⟨rfl, bw⟩
  rw [hy] at kB
  obtain ⟨l0, l1, l2, l3, _⟩ := hpA hx
  obtain ⟨r0, r1, r2, r3, _⟩ := hpB hy
  obtain ⟨m0, m1, m2, m3⟩ := m
  obtain ⟨q0, q1, q2, q3⟩ := q
  simp only at i0 i1 i2 i3 j0 j1 j2 j3 l0 l1 l2 l3 r0 r1 r2 r3
  obtain rfl : n0 = 3 := i0.1.symm.trans l0
  obtain rfl : n1 = 4 := i1.1.symm.trans l1
  obtain rfl : n2 = 2 := i2.1.symm.trans l2
  obtain rfl : n3 = 6 := i3.1.symm.trans l3
  obtain rfl : k0 = 3 := j0.1.symm.trans r0
  obtain rfl : k1 = 4 := j1.1.symm.trans r1
  obtain rfl : k2 = 2 := j2.1.symm.trans r2
  obtain rfl : k3 = 6 := j3.1.symm.trans r3
  have z0 := fun (W : World) (hb : Below w.heap.size w W) => equalI_is a0 b0 3 c0 d0 m0 q0 W (i0.below hb) (j0.below hb) (by decide)
  have z1 := fun (W : World) (hb : Below w.heap.size w W) => equalI_is a1 b1 4 c1 d1 m1 q1 W (i1.below hb) (j1.below hb) (by decide)
  have z2 := fun (W : World) (hb : Below w.heap.size w W) => equalI_is a2 b2 2 c2 d2 m2 q2 W (i2.below hb) (j2.below hb) (by decide)
  have z3 := fun (W : World) (hb : Below w.heap.size w W) => equalI_is a3 b3 6 c3 d3 m3 q3 W (i3.below hb) (j3.below hb) (by decide)
  have hfin : decide ((m0, m1, m2, m3) = (q0, q1, q2, q3)) = (decide (m0 = q0) && (decide (m1 = q1) && (decide (m2 = q2) && decide (m3 = q3)))) := by
    simp only [Prod.mk.injEq, Bool.decide_and]
  rw [hfin]
  clear hfin i0 i1 i2 i3 j0 j1 j2 j3 l0 l1 l2 l3 r0 r1 r2 r3 hpA hpB
  generalize decide (m0 = q0) = x0 at *
  generalize decide (m1 = q1) = x1 at *
  generalize decide (m2 = q2) = x2 at *
  generalize decide (m3 = q3) = x3 at *
  have y0 := idx4_0 (.slice a0 3 c0) (.slice a1 4 c1) (.slice a2 2 c2) (.slice a3 6 c3)
  have y1 := idx4_1 (.slice a0 3 c0) (.slice a1 4 c1) (.slice a2 2 c2) (.slice a3 6 c3)
  have y2 := idx4_2 (.slice a0 3 c0) (.slice a1 4 c1) (.slice a2 2 c2) (.slice a3 6 c3)
  have y3 := idx4_3 (.slice a0 3 c0) (.slice a1 4 c1) (.slice a2 2 c2) (.slice a3 6 c3)
  go_enter Tryd.func18, Tryd.ntmps18
  go_wp2_with fail
  refine (kA _ (hMA _ bw) (hV.below bw)).mono ?_
  rintro e w1 ⟨rfl, hb⟩
  replace bw := bel_trans bw hb
  replace pA := pA.below hb
  replace pB := pB.below hb
  have g0 := pB.cell 0
  have g1 := pB.cell 1
  have g2 := pB.cell 2
  have g3 := pB.cell 3
  simp at g0 g1 g2 g3
  clear hb kA
  go_wp2_with fail
  refine (kB _ (hMB _ bw) (hV.below bw)).mono ?_
  rintro e w2 ⟨rfl, hb⟩
  replace bw := bel_trans bw hb
  replace pA := pA.below hb
  replace pB := pB.below hb
  replace g0 := cells_kept hb _ _ g0
  replace g1 := cells_kept hb _ _ g1
  replace g2 := cells_kept hb _ _ g2
  replace g3 := cells_kept hb _ _ g3
  clear hb kB hMA hMB hV
  go_wp2_with fail
  refine (kLB _).mono ?_
  rintro e w3 ⟨rfl, hb⟩
  replace bw := bel_trans bw hb
  replace pA := pA.below hb
  clear hb kLB g0 g1 g2 g3 pB
  have hb4 : Below w3.heap.size w3 (w3.alloc (.cells #[.slice b0 3 d0, .slice b1 4 d1, .slice b2 2 d2, .slice b3 6 d3] 100)) := by go_grown
  have pC := Blk.new w3 100 [.slice b0 3 d0, .slice b1 4 d1, .slice b2 2 d2, .slice b3 6 d3]
  replace bw := bel_trans bw hb4
  replace pA := pA.below hb4
  clear hb4
  have g0 := pA.cell 0
  have g1 := pA.cell 1
  have g2 := pA.cell 2
  have g3 := pA.cell 3
  simp at g0 g1 g2 g3
  go_wp2_with fail
  generalize (w3.alloc (.cells #[.slice b0 3 d0, .slice b1 4 d1, .slice b2 2 d2, .slice b3 6 d3] 100)) = w4 at *
  generalize w3.heap.size = gC at *
  refine (kLA _).mono ?_
  rintro e w5 ⟨rfl, hb⟩
  replace bw := bel_trans bw hb
  replace pC := pC.below hb
  clear hb kLA g0 g1 g2 g3 pA
  have g0 := pC.cell 0
  simp at g0
  go_wp2_with fail
  refine wp_loop_rounds 5 ?_
  rw [rounds_succ]
  go_wp2_with fail
  refine (z0 _ bw).mono ?_
  rintro e w6 ⟨rfl, hb⟩
  replace bw := bel_trans bw hb
  replace pC := pC.below hb
  clear hb g0 z0
  cases x0
  · go_wp2
    go_ret
    exact ⟨rfl, bw⟩
  have g0 := pC.cell 1
  simp at g0
  go_wp2_with fail
  rw [rounds_succ]
  go_wp2_with fail
  refine (z1 _ bw).mono ?_
  rintro e w7 ⟨rfl, hb⟩
  replace bw := bel_trans bw hb
  replace pC := pC.below hb
  clear hb g0 z1
  cases x1
  · go_wp2
    go_ret
    exact ⟨rfl, bw⟩
  have g0 := pC.cell 2
  simp at g0
  go_wp2_with fail
  rw [rounds_succ]
  go_wp2_with fail
  refine (z2 _ bw).mono ?_
  rintro e w8 ⟨rfl, hb⟩
  replace bw := bel_trans bw hb
  replace pC := pC.below hb
  clear hb g0 z2
  cases x2
  · go_wp2
    go_ret
    exact ⟨rfl, bw⟩
  have g0 := pC.cell 3
  simp at g0
  go_wp2_with fail
  rw [rounds_succ]
  go_wp2_with fail
  refine (z3 _ bw).mono ?_
  rintro e w9 ⟨rfl, hb⟩
  replace bw := bel_trans bw hb
  clear hb g0 z3
  cases x3
  · go_wp2
    go_ret
    exact ⟨rfl, bw⟩
  go_wp2_with fail
  rw [rounds_succ]
  go_wp2
  go_ret
  exact ⟨rfl, bw⟩
end Go.Proofs.YtmhngodbnoonhaaDoor

