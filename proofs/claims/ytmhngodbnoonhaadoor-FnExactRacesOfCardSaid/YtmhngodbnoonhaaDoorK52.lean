/-
  Joined: RacS.
-/
import Derived.Test.YtmhngodbnoonhaaDoorProg
import Derived.Deep.RegionHeld3
import Derived.KernelRfl
import Derived.Tactics
import Derived.WalkKit
import Derived.WalkSpells
import Derived.WalkLawsBesides
import Derived.RegionTactic
import Derived.BigQuiet
import Derived.Deep.QuietTactic
import Derived.Deep.Slices
import Derived.Deep.Strs
import Derived.Deep.Fields
import Derived.ChangeSame
import Derived.Handy
import Derived.OwnWalk
import Derived.ChangeSlices
import Derived.Lib.SmallJoins
import Derived.Shelf.Abstract
import Derived.Laws.BytesArg
import Derived.Deep.RegionLaw
import Derived.Laws.OwnMore
import Derived.Laws.CopyOwn
import Derived.Laws.Tables
import Derived.BigRegion
import Derived.Maps.AppendAt
import Derived.Stop.Asserts
import Derived.Recover
import Derived.IntWalk
import Derived.Deep.MidRow
import Derived.Laws.RangeString
import Derived.Laws.RangeAny
import Derived.Laws.Bits
import Derived.Lib.FieldsP
import Derived.Shelf.SlSortCmp.NoneTotal
import Derived.Shelf.Spec.SlicesGrow
import Derived.Laws.AppendOwnNone
import Derived.Lib.SliceRun
import Derived.Test.YtmhngodbnoonhaaDoorRows
import Derived.ProofKit
import Derived.OpenShut
import Derived.LaidMore
import Derived.MakeChecks
import Derived.Stop.LaidErr
import Derived.Test.YtmhngodbnoonhaaDoorK01
import Derived.Test.YtmhngodbnoonhaaDoorK02
import Derived.Test.YtmhngodbnoonhaaDoorK04
import Derived.Test.YtmhngodbnoonhaaDoorK07
import Derived.Test.YtmhngodbnoonhaaDoorK08
import Derived.Test.YtmhngodbnoonhaaDoorK09
import Derived.Test.YtmhngodbnoonhaaDoorK11
import Derived.Test.YtmhngodbnoonhaaDoorK12
import Derived.Test.YtmhngodbnoonhaaDoorK14
import Derived.Test.YtmhngodbnoonhaaDoorK16
import Derived.Test.YtmhngodbnoonhaaDoorK22
import Derived.Test.YtmhngodbnoonhaaDoorK23
import Derived.Test.YtmhngodbnoonhaaDoorK24
import Derived.Test.YtmhngodbnoonhaaDoorK25
import Derived.Test.YtmhngodbnoonhaaDoorK26
import Derived.Test.YtmhngodbnoonhaaDoorK28
import Derived.Test.YtmhngodbnoonhaaDoorK29
import Derived.Test.YtmhngodbnoonhaaDoorK39
import Derived.Test.YtmhngodbnoonhaaDoorK43
import Derived.Test.YtmhngodbnoonhaaDoorK46
import Derived.Test.YtmhngodbnoonhaaDoorK47
import Derived.Test.YtmhngodbnoonhaaDoorK50
import Derived.Test.YtmhngodbnoonhaaDoorK51

/-
  The specification's RacesOf; FnExactRacesOf.
-/
namespace Go.Proofs.YtmhngodbnoonhaaDoor
open Go.RowKit
set_option linter.unusedVariables false
set_option linter.unusedSimpArgs false

theorem bit_is (b : Bool) (w : World) : Calls Tryd.prog 71 #[.bool b] w fun e w' => e = .returned (.int .i64 (bitN b : Nat)) ∧ w = w' := by
  cases b
  · go_enter Tryd.func71, Tryd.ntmps71
    go_wp2
    go_ret
    exact ⟨rfl, rfl⟩
  · go_enter Tryd.func71, Tryd.ntmps71
    go_wp2
    go_ret
    exact ⟨rfl, rfl⟩
theorem raceN_I (es : List I4) : raceN es = sumN (fun i => fromTo (fun k => bitN (raceB es i k)) (i + 1) es.length) es.length := by
  unfold raceN
  rw [← pairs_same]
  rfl
theorem fromTo_low (f : Nat → Nat) (a : Nat) : fromTo f a a = 0 := by unfold fromTo; rw [Nat.sub_self]; rfl
theorem fromTo_le {f : Nat → Nat} {B : Nat} (h : ∀ i, f i ≤ B) (a b : Nat) : fromTo f a b ≤ (b - a) * B := sumN_le (fun i => h _) _

set_option maxHeartbeats 4000000 in
set_option maxRecDepth 100000 in
theorem specRaces_ok (a : Option Addr) (cap : Nat) (rows : List (List I3)) (la : Option Addr) (n c : Nat) (ks : List Int) (w : World) (hC : Codes w a 3 cap rows) (hL : Ints .i64 w la n c ks) (hn : ¬ 4096 < n) (hp : progOk rows = true) :
    Calls Tryd.prog 23 #[.agg #[.slice a 3 cap], .slice la n c] w fun e w' => e = .returned (.tuple #[.int .i64 (raceN (evE rows ks) : Nat), .int .i64 (evK rows ks)]) ∧ Below w.heap.size w w' := by
  have hI := evE_three rows ks
  have hE := evE_len9 rows ks
  have HN : Hid (evK rows ks ≠ 0 → raceN (evE rows ks) = 0) := fun h => by rw [evE_nil h]; rfl
  have bw : Below w.heap.size w (w.alloc (.cells #[.slice a 3 cap] 25)) := by go_grown
  have pP : Blk (w.alloc (.cells #[.slice a 3 cap] 25)) w.heap.size 25 [.slice a 3 cap] := blkAt _ _ _ rfl
  have hn' : ¬ (4096 : Int) < (n : Int) := by omega
  have kA := fun W (b : Below w.heap.size w W) => l05Ask_is a 3 cap rows la n c W (hC.below b) hn
  rw [hp] at kA
  simp only [if_true] at kA
  obtain ⟨_, cs, hR⟩ := hC.rowsAt hp
  have kE := fun W (b : Below w.heap.size w W) => l05Events_is (cap := cap) (hR.below b) hp (hL.below b) (by omega)
  have e1 : (if (runI rows zeroV [] ks).2.2 = 0 then evsM rows zeroV ks else []) = evE rows ks := by unfold evE; rw [hL.1, if_neg hn, hp]; rfl
  have e2 : (runI rows zeroV [] ks).2.2 = evK rows ks := by unfold evK; rw [hL.1, if_neg hn, hp]; rfl
  rw [e1, e2] at kE
  clear e1 e2
  generalize evE rows ks = es at *
  generalize evK rows ks = cd at *
  obtain ⟨N, hN⟩ : ∃ N, N = raceN es := ⟨_, rfl⟩
  have HR : Hid (N = raceN es) := hN
  rw [← hN]
  clear hN
  clear hp hC hL hn hR
  go_enter Tryd.func23, Tryd.ntmps23
  go_wp2_with fail
  generalize (w.alloc (.cells #[.slice a 3 cap] 25)) = U at *
  go_wp2_with (first | refine wpList_load_blk rfl 25 _ rfl w.heap.size rfl pP _ Tryd.underlying25 rfl (by kernel_rfl) ?_)
  refine (kA _ bw).mono ?_
  rintro e w1 ⟨rfl, hb⟩
  replace bw := bel_trans bw hb
  replace pP := pP.below hb
  clear hb kA
  go_wp2_with (first | refine wpList_load_blk rfl 25 _ rfl w.heap.size rfl pP _ Tryd.underlying25 rfl (by kernel_rfl) ?_)
  refine (kE _ bw).mono ?_
  rintro e w2 ⟨⟨v, rfl, q⟩, hb⟩
  replace bw := bel_trans bw hb
  clear hb kE pP
  by_cases hcd : cd = 0
  case neg =>
    have hne : (cd != 0) = true := by simp [hcd]
    have HE : Hid (N = 0) := by rw [Hid, HR.out]; exact HN.out hcd
    clear q HN hcd
    go_wp2
    go_ret2
    rw [HE.out]
    exact ⟨rfl, bw⟩
  subst hcd
  clear HN
  obtain ⟨ea, ec, rfl, hEv⟩ := evs_slice q
  have kN := l05Order_is ea es.length ec es w2 hEv hE
  unfold OrdGot at kN
  obtain ⟨n9, hn9⟩ : ∃ n9, n9 = es.length := ⟨_, rfl⟩
  have HL : Hid (n9 = es.length) := hn9
  rw [← hn9] at kN hE hEv ⊢
  clear q hn9
  obtain ⟨N9, hN9⟩ : ∃ N9, N9 = n9 * n9 := ⟨_, rfl⟩
  have HM : Hid (N9 = n9 * n9) := hN9
  have hb9 : N9 ≤ 16777216 := by rw [hN9]; exact Nat.mul_le_mul hE hE
  rw [← hN9] at kN
  clear hN9
  go_wp2_with fail
  refine kN.mono ?_
  rintro e w3 ⟨g, rfl, pB, hg, hb⟩
  have hEv3 := hEv.below hb
  have bw3 := bel_trans bw hb
  clear hb kN bw hEv
  have HT : Hid (∀ (W : World), Below w3.heap.size w3 W → ∀ i k, i < n9 → k < n9 → W.cell? ⟨g, i * n9 + k, none⟩ = some (.bool (ahdB es i k))) := fun W b i k hi hk => by
    rw [ahdB_bef hI]
    exact ((pB.below b).cell (i * n9 + k)).trans (tab2_get _ hi hk)
  have kDp := fun (x y : I4) (W : World) => specDepends_is x y W
  have HF : Hid (∀ i k, i < k → fromTo (fun k => bitN (raceB es i k)) (i + 1) (k + 1) = fromTo (fun k => bitN (raceB es i k)) (i + 1) k + bitN (raceB es i k)) := fun i k h => fromTo_succ _ (by omega)
  have HSb : Hid (∀ i, i ≤ n9 → sumN (fun i => fromTo (fun k => bitN (raceB es i k)) (i + 1) n9) i ≤ i * 4096) := fun i hi => by
    refine sumN_le (fun j => ?_) i
    have := fromTo_le (f := fun k => bitN (raceB es j k)) (B := 1) (fun k => bitN_le _) (j + 1) n9
    omega
  have HFb : Hid (∀ i k, k ≤ n9 → fromTo (fun k => bitN (raceB es i k)) (i + 1) k ≤ 4096) := fun i k hk => by
    have := fromTo_le (f := fun k => bitN (raceB es i k)) (B := 1) (fun k => bitN_le _) (i + 1) k
    omega
  clear pB
  go_wp2_with fail
  go_loopw [11, 12] (fun sc si wr => ∃ i : Nat, i ≤ n9 ∧ sc = .int .i64 (sumN (fun i => fromTo (fun k => bitN (raceB es i k)) (i + 1) n9) i : Nat) ∧ si = .int .i64 i ∧ Below w3.heap.size w3 wr) (fun _ si _ => n9 - (intOf si).toNat)
  case atStart => exact ⟨0, by omega, rfl, rfl, Below.refl _ _⟩
  case round =>
    obtain ⟨i, hi, rfl, rfl, b2⟩ := hrel
    by_cases hin : i < n9
    · have hin' : (i : Int) < (n9 : Int) := by omega
      have hi0 : (0 : Int) ≤ (i : Int) := by omega
      have hsb := HSb.out i hi
      have HS1 : Hid (sumN (fun i => fromTo (fun k => bitN (raceB es i k)) (i + 1) n9) (i + 1) = sumN (fun i => fromTo (fun k => bitN (raceB es i k)) (i + 1) n9) i + fromTo (fun k => bitN (raceB es i k)) (i + 1) n9) := rfl
      generalize sumN (fun i => fromTo (fun k => bitN (raceB es i k)) (i + 1) n9) i = A at *
      go_wp2_with fail
      go_loopw [11, 13] (fun sc sk wr => ∃ k : Nat, i < k ∧ k ≤ n9 ∧ sc = .int .i64 (A + fromTo (fun k => bitN (raceB es i k)) (i + 1) k : Nat) ∧ sk = .int .i64 k ∧ Below w3.heap.size w3 wr) (fun _ sk _ => n9 - (intOf sk).toNat)
      case atStart => exact ⟨i + 1, by omega, by omega, by rw [fromTo_low, Nat.add_zero], by go_num, b2⟩
      case round =>
        clear b2
        obtain ⟨k, hik, hk, rfl, rfl, b2⟩ := hrel
        by_cases hkn : k < n9
        · have hkn' : (k : Int) < (n9 : Int) := by omega
          have hk0 : (0 : Int) ≤ (k : Int) := by omega
          obtain ⟨ge, rfl, hgl, x0, x1, x2, x3⟩ := ev_cells hEv3 b2 hin
          obtain ⟨ge9, hge9, _, y0, y1, y2, y3⟩ := ev_cells hEv3 b2 hkn
          cases hge9
          have hfb := HFb.out i k hk
          have HF2 := HF.out i k hik
          have ti := thE_int hI i
          have tk := thE_int hI k
          have kD := kDp (evAt es i) (evAt es k)
          have HR2 : Hid (raceB es i k = ((decide (thE es i ≠ thE es k) && depM (evAt es i) (evAt es k)) && clearB (btwB es i k) i k)) := rfl
          obtain ⟨d0, hd0⟩ : ∃ d0, d0 = (decide (thE es i ≠ thE es k) && depM (evAt es i) (evAt es k)) := ⟨_, rfl⟩
          rw [← hd0] at HR2
          have HF3 : Hid (fromTo (fun k => bitN (raceB es i k)) (i + 1) (k + 1) = fromTo (fun k => bitN (raceB es i k)) (i + 1) k + bitN (raceB es i k)) := HF2
          clear HF2 HR HSb
          by_cases hth : thE es i = thE es k
          · have heq : ((evAt es i).1 != (evAt es k).1) = false := by rw [← ti, ← tk, hth]; simp
            have hdz : d0 = false := by rw [hd0]; simp [hth]
            subst hdz
            generalize (evAt es i).1 = xa at *
            generalize (evAt es k).1 = ya at *
            clear hd0 kD hth ti tk x1 x2 x3 y1 y2 y3
            go_wp2
            go_quiet (fail)
            have b3 : Below w3.heap.size w3 (wr.drewN nq) := bel_trans b2 (below_dN nq)
            clear b2 x0 y0
            generalize wr.drewN nq = wq at *
            go_wp2_with fail
            go_loopw [14, 15] (fun sd sh wz => ∃ h : Nat, i < h ∧ h ≤ k ∧ sd = .bool (false && clearB (btwB es i k) i h) ∧ sh = .int .i64 h ∧ wz = wq) (fun _ sh _ => k - (intOf sh).toNat)
            case atStart => exact ⟨i + 1, by omega, by omega, by rw [clearB_low _ _ _ (by omega), Bool.and_true], by go_num, rfl⟩
            case round =>
              obtain ⟨h, hih, hhk, rfl, rfl, hwz⟩ := hrel
              subst hwz
              by_cases hlt : h < k
              · have hlt' : (h : Int) < (k : Int) := by omega
                obtain ⟨M1, P1, hw1, hw2, hP1, hP10, hPe1⟩ := ix_two HM.out hb9 hin (show h < n9 by omega)
                obtain ⟨M2, P2, hw3, hw4, hP2, hP20, hPe2⟩ := ix_two HM.out hb9 (show h < n9 by omega) hkn
                have q1 := HT.out wr b3 i h hin (by omega)
                have q2 := HT.out wr b3 h k (by omega) hkn
                rw [← hPe1] at q1
                rw [← hPe2] at q2
                clear hPe1 hPe2
                have HC : Hid ((false && clearB (btwB es i k) i (h + 1)) = ((false && clearB (btwB es i k) i h) && !(ahdB es i h && ahdB es h k))) := by
                  rw [Hid, clearB_next hih, Bool.and_assoc]
                  rfl
                generalize (false && clearB (btwB es i k) i h) = f0 at *
                generalize ahdB es i h = p1 at *
                generalize ahdB es h k = p2 at *
                cases f0
                · go_wp2
                  go_roundw
                  case rel => exact ⟨h + 1, by omega, by omega, by rw [HC.out]; rfl, by go_num, by first | rfl | trivial⟩
                  case measure => simp [intOf]; omega
                · cases p1
                  · go_wp2
                    go_roundw
                    case rel => exact ⟨h + 1, by omega, by omega, by rw [HC.out]; rfl, by go_num, by first | rfl | trivial⟩
                    case measure => simp [intOf]; omega
                  · cases p2
                    · go_wp2
                      go_roundw
                      case rel => exact ⟨h + 1, by omega, by omega, by rw [HC.out]; rfl, by go_num, by first | rfl | trivial⟩
                      case measure => simp [intOf]; omega
                    · go_wp2
                      go_roundw
                      case rel => exact ⟨h + 1, by omega, by omega, by rw [HC.out]; rfl, by go_num, by first | rfl | trivial⟩
                      case measure => simp [intOf]; omega
              · obtain rfl : h = k := by omega
                rw [← HR2.out]
                generalize raceB es i h = rb at *
                generalize fromTo (fun k => bitN (raceB es i k)) (i + 1) h = FF at *
                have hrb := bitN_le rb
                obtain ⟨C, hC⟩ : ∃ C, C = A + FF := ⟨_, rfl⟩
                have HC : Hid (C = A + FF) := hC
                have hCb : C ≤ 100000000 := by omega
                have hC9 : (A : Int) + (FF : Int) = (C : Int) := by omega
                first | rw [← hC] | rw [hC9]
                clear hC hC9
                go_wp2_with fail
                refine (bit_is rb _).mono ?_
                rintro e w5 ⟨rfl, rfl⟩
                generalize bitN rb = bt at *
                go_wp2
                go_roundw
                case rel => exact ⟨h + 1, by omega, by omega, by rw [HF3.out, ← Nat.add_assoc, ← HC.out]; go_num, by go_num, b3⟩
                case measure => simp [intOf]; omega
          · have heq : ((evAt es i).1 != (evAt es k).1) = true := by rw [← ti, ← tk]; simp; omega
            have hdz : d0 = depM (evAt es i) (evAt es k) := by rw [hd0]; simp [hth]
            rw [← hdz] at kD
            clear hd0 hth ti tk hdz
            generalize evAt es i = x at *
            generalize evAt es k = y at *
            obtain ⟨xa, xb, xc, xd⟩ := x
            obtain ⟨ya, yb, yc, yd⟩ := y
            unfold I4.val at kD
            simp only at x0 x1 x2 x3 y0 y1 y2 y3 heq kD
            go_wp2_with fail
            go_region_held3 (fun w' => w'.cell? ⟨ge, i * 4, none⟩ = some (.int .i64 xa) ∧ w'.cell? ⟨ge, i * 4 + 1, none⟩ = some (.int .i64 xb) ∧ w'.cell? ⟨ge, i * 4 + 2, none⟩ = some (.int .i64 xc) ∧ w'.cell? ⟨ge, i * 4 + 3, none⟩ = some (.int .i64 xd) ∧ w'.cell? ⟨ge, k * 4, none⟩ = some (.int .i64 ya) ∧ w'.cell? ⟨ge, k * 4 + 1, none⟩ = some (.int .i64 yb) ∧ w'.cell? ⟨ge, k * 4 + 2, none⟩ = some (.int .i64 yc) ∧ w'.cell? ⟨ge, k * 4 + 3, none⟩ = some (.int .i64 yd)) (first | (exact ⟨x0, x1, x2, x3, y0, y1, y2, y3⟩) | (refine ⟨?_, ?_, ?_, ?_, ?_, ?_, ?_, ?_⟩ <;> (apply cells_kept (by assumption); assumption)) | go_keep)
              (first | (go_at_call 70; refine (kD _).mono ?_; rintro e wq ⟨rfl, hb1⟩))
            rename_i hHeld
            have b3 : Below w3.heap.size w3 wq := bel_trans b2 (bel_trans (by go_grown) hb1)
            clear hHeld hb1 b2 x0 x1 x2 x3 y0 y1 y2 y3 kD
            go_wp2_with fail
            go_loopw [14, 15] (fun sd sh wz => ∃ h : Nat, i < h ∧ h ≤ k ∧ sd = .bool (d0 && clearB (btwB es i k) i h) ∧ sh = .int .i64 h ∧ wz = wq) (fun _ sh _ => k - (intOf sh).toNat)
            case atStart => exact ⟨i + 1, by omega, by omega, by rw [clearB_low _ _ _ (by omega), Bool.and_true], by go_num, rfl⟩
            case round =>
              obtain ⟨h, hih, hhk, rfl, rfl, hwz⟩ := hrel
              subst hwz
              by_cases hlt : h < k
              · have hlt' : (h : Int) < (k : Int) := by omega
                obtain ⟨M1, P1, hw1, hw2, hP1, hP10, hPe1⟩ := ix_two HM.out hb9 hin (show h < n9 by omega)
                obtain ⟨M2, P2, hw3, hw4, hP2, hP20, hPe2⟩ := ix_two HM.out hb9 (show h < n9 by omega) hkn
                have q1 := HT.out wr b3 i h hin (by omega)
                have q2 := HT.out wr b3 h k (by omega) hkn
                rw [← hPe1] at q1
                rw [← hPe2] at q2
                clear hPe1 hPe2
                have HC : Hid ((d0 && clearB (btwB es i k) i (h + 1)) = ((d0 && clearB (btwB es i k) i h) && !(ahdB es i h && ahdB es h k))) := by
                  rw [Hid, clearB_next hih, Bool.and_assoc]
                  rfl
                generalize (d0 && clearB (btwB es i k) i h) = f0 at *
                generalize ahdB es i h = p1 at *
                generalize ahdB es h k = p2 at *
                cases f0
                · go_wp2
                  go_roundw
                  case rel => exact ⟨h + 1, by omega, by omega, by rw [HC.out]; rfl, by go_num, by first | rfl | trivial⟩
                  case measure => simp [intOf]; omega
                · cases p1
                  · go_wp2
                    go_roundw
                    case rel => exact ⟨h + 1, by omega, by omega, by rw [HC.out]; rfl, by go_num, by first | rfl | trivial⟩
                    case measure => simp [intOf]; omega
                  · cases p2
                    · go_wp2
                      go_roundw
                      case rel => exact ⟨h + 1, by omega, by omega, by rw [HC.out]; rfl, by go_num, by first | rfl | trivial⟩
                      case measure => simp [intOf]; omega
                    · go_wp2
                      go_roundw
                      case rel => exact ⟨h + 1, by omega, by omega, by rw [HC.out]; rfl, by go_num, by first | rfl | trivial⟩
                      case measure => simp [intOf]; omega
              · obtain rfl : h = k := by omega
                rw [← HR2.out]
                generalize raceB es i h = rb at *
                generalize fromTo (fun k => bitN (raceB es i k)) (i + 1) h = FF at *
                have hrb := bitN_le rb
                obtain ⟨C, hC⟩ : ∃ C, C = A + FF := ⟨_, rfl⟩
                have HC : Hid (C = A + FF) := hC
                have hCb : C ≤ 100000000 := by omega
                have hC9 : (A : Int) + (FF : Int) = (C : Int) := by omega
                first | rw [← hC] | rw [hC9]
                clear hC hC9
                go_wp2_with fail
                refine (bit_is rb _).mono ?_
                rintro e w5 ⟨rfl, rfl⟩
                generalize bitN rb = bt at *
                go_wp2
                go_roundw
                case rel => exact ⟨h + 1, by omega, by omega, by rw [HF3.out, ← Nat.add_assoc, ← HC.out]; go_num, by go_num, b3⟩
                case measure => simp [intOf]; omega
        · obtain rfl : k = n9 := by omega
          go_wp2
          go_roundw
          case rel => exact ⟨i + 1, by omega, by rw [HS1.out], by go_num, b2⟩
          case measure => simp [intOf]; omega
    · obtain rfl : i = n9 := by omega
      have HE : Hid (N = sumN (fun j => fromTo (fun k => bitN (raceB es j k)) (j + 1) i) i) := by
        rw [Hid, HR.out, raceN_I, ← HL.out]
      have b9 := bel_trans bw3 b2
      go_wp2
      go_ret2
      rw [HE.out]
      exact ⟨rfl, b9⟩

set_option maxHeartbeats 1000000 in
set_option maxRecDepth 100000 in
theorem specRacesOf_is (a : Option Addr) (len cap : Nat) (rows : List (List I3)) (la : Option Addr) (n c : Nat) (ks : List Int) (w : World) (hC : Codes w a len cap rows) (hL : Ints .i64 w la n c ks) :
    Calls Tryd.prog 23 #[.agg #[.slice a len cap], .slice la n c] w fun e w' => e = .returned (.tuple #[.int .i64 (raceN (evE rows ks) : Nat), .int .i64 (evK rows ks)]) ∧ Below w.heap.size w w' := by
  have HN : Hid (evK rows ks ≠ 0 → raceN (evE rows ks) = 0) := fun h => by rw [evE_nil h]; rfl
  have bw : Below w.heap.size w (w.alloc (.cells #[.slice a len cap] 25)) := by go_grown
  have pP : Blk (w.alloc (.cells #[.slice a len cap] 25)) w.heap.size 25 [.slice a len cap] := blkAt _ _ _ rfl
  by_cases hn : 4096 < n
  · have hn' : (4096 : Int) < (n : Int) := by omega
    have e1 : evK rows ks = 2 := by unfold evK; rw [hL.1, if_pos hn]
    rw [HN.out (by rw [e1]; decide), e1]
    clear hC hL hn pP HN e1
    go_enter Tryd.func23, Tryd.ntmps23
    go_wp2
    go_ret2
    exact ⟨rfl, bw⟩
  have hn' : ¬ (4096 : Int) < (n : Int) := by omega
  have kA := fun W (b : Below w.heap.size w W) => l05Ask_is a len cap rows la n c W (hC.below b) hn
  cases hp : progOk rows
  · have e1 : evK rows ks = 1 := by unfold evK; rw [hL.1, if_neg hn, hp]; rfl
    rw [HN.out (by rw [e1]; decide), e1]
    rw [hp] at kA
    simp only [Bool.false_eq_true, if_false] at kA
    clear hp hC hL hn HN e1
    go_enter Tryd.func23, Tryd.ntmps23
    go_wp2_with fail
    generalize (w.alloc (.cells #[.slice a len cap] 25)) = U at *
    go_wp2_with (first | refine wpList_load_blk rfl 25 _ rfl w.heap.size rfl pP _ Tryd.underlying25 rfl (by kernel_rfl) ?_)
    refine (kA _ bw).mono ?_
    rintro e w1 ⟨rfl, hb⟩
    replace bw := bel_trans bw hb
    clear hb kA pP
    go_wp2
    go_ret2
    exact ⟨rfl, bw⟩
  · obtain ⟨rfl, cs, hR⟩ := hC.rowsAt hp
    exact specRaces_ok a cap rows la n c ks w hC hL hn hp

theorem fnExactRacesOf_walk (a0 : Option Addr) (n0 c0 : Nat) (r0 : List (List I3)) (a1 : Option Addr) (n1 c1 : Nat) (z1 : List Int) (w : World) (h0 : Codes w a0 n0 c0 r0) (h1 : IsRow .i64 w a1 n1 c1 z1) (hG : VmShape w) :
    Calls Tryd.prog 8 #[.agg #[.slice a0 n0 c0], .slice a1 n1 c1] w fun e w' => e = .returned (.bool true) ∧ Below w.heap.size w w' :=
  fnExactRacesOf_of a0 n0 c0 r0 a1 n1 c1 (z1.take n1) (raceN (evE r0 (z1.take n1)) : Nat) (evK r0 (z1.take n1)) w h0 (Ints.of_isRow h1) hG
    (fun a n c la ln lc w hC hL => specRacesOf_is a n c r0 la ln lc _ w hC hL)
    (fun a n c la ln lc w hC hL hV => implRacesOf_is a n c r0 la ln lc _ w hC hV hL)

theorem fnExactRacesOf_laid {W : World} (h : laidMetH Tryd.prog Rows.fnExactRacesOfRow.laid W) : VmShape W := vmShape_of_laid rfl h
theorem fnExactRacesOf_door_met (os : Os) (args : Array Value) : laidMetH Tryd.prog Rows.fnExactRacesOfRow.laid ((World.doorLaid Tryd.prog 400 os).forCall (fun _ _ => 0) ⟨#[], args, []⟩).memory :=
  laidMetH_of_parts3 (fuel := 8) (laidMet_of_run' 8 (by kernel_rfl) (by kernel_rfl)) (by kernel_rfl) (by kernel_rfl)
end Go.Proofs.YtmhngodbnoonhaaDoor

