/-
  Joined: FoW.
-/
import Derived.Test.YtmhngodbnoonhaaDoorProg
import Derived.WalkKit
import Derived.WalkSpells
import Derived.WalkLawsBesides
import Derived.RegionTactic
import Derived.BigQuiet
import Derived.Deep.QuietTactic
import Derived.Deep.Slices
import Derived.Deep.Strs
import Derived.Deep.Fields
import Derived.ChangeSame
import Derived.ChangeSlices
import Derived.Lib.SmallJoins
import Derived.Handy
import Derived.OwnWalk
import Derived.Shelf.Abstract
import Derived.Deep.RegionHeld3
import Derived.Laws.BytesArg
import Derived.Deep.RegionLaw
import Derived.Laws.OwnMore
import Derived.Laws.CopyOwn
import Derived.Laws.Tables
import Derived.IntWalk
import Derived.BigRegion
import Derived.Maps.AppendAt
import Derived.Deep.MidRow
import Derived.Laws.RangeString
import Derived.Laws.RangeAny
import Derived.Laws.Bits
import Derived.Lib.FieldsP
import Derived.Stop.Asserts
import Derived.Recover
import Derived.Shelf.SlSortCmp.NoneTotal
import Derived.Shelf.Spec.SlicesGrow
import Derived.Laws.AppendOwnNone
import Derived.Lib.SliceRun
import Derived.Test.YtmhngodbnoonhaaDoorRows
import Derived.ProofKit
import Derived.OpenShut
import Derived.LaidMore
import Derived.MakeChecks
import Derived.Stop.LaidErr
import Derived.Test.YtmhngodbnoonhaaDoorM01
import Derived.Test.YtmhngodbnoonhaaDoorM03
import Derived.Test.YtmhngodbnoonhaaDoorM05
import Derived.Test.YtmhngodbnoonhaaDoorM07
import Derived.Test.YtmhngodbnoonhaaDoorM08
import Derived.Test.YtmhngodbnoonhaaDoorM11
import Derived.Test.YtmhngodbnoonhaaDoorM21
import Derived.Test.YtmhngodbnoonhaaDoorM22
import Derived.Test.YtmhngodbnoonhaaDoorM27
import Derived.Test.YtmhngodbnoonhaaDoorM29
import Derived.Test.YtmhngodbnoonhaaDoorM31
import Derived.Test.YtmhngodbnoonhaaDoorM32
import Derived.Test.YtmhngodbnoonhaaDoorM33
import Derived.Test.YtmhngodbnoonhaaDoorM37
import Derived.Test.YtmhngodbnoonhaaDoorM39
import Derived.Test.YtmhngodbnoonhaaDoorM43
import Derived.Test.YtmhngodbnoonhaaDoorM44
import Derived.Test.YtmhngodbnoonhaaDoorM45
import Derived.Test.YtmhngodbnoonhaaDoorM46
import Derived.Test.YtmhngodbnoonhaaDoorM47

/-
  What must be ahead of what must be ahead must be ahead; races are pairs of threads that depend: the law's walk.
-/
namespace Go.Proofs.YtmhngodbnoonhaaDoor
open Go.RowKit
set_option linter.unusedVariables false
set_option linter.unusedSimpArgs false

theorem schedule_intsO (a : Option Addr) (n cap : Nat) (zs : List Int) (aP : Option Addr) (capP : Nat) (rows : List (List I3)) (w : World) (hI : IsRow .u8 w a n cap zs) (hn : n ≤ 1048576) (hP : Codes w aP 3 capP rows) (hok : progOk rows = true) :
    Calls Tryd.prog 12 #[.slice a n cap, .agg #[.slice aP 3 capP]] w fun e w' => (∃ (lb lo lc k : Nat) (ks : List Int) (m : V4), e = .returned (.slice (some ⟨lb, lo, none⟩) k lc) ∧ Ints .i64 w' (some ⟨lb, lo, none⟩) k lc ks ∧ k ≤ 14 ∧ goesTo rows ks m) ∧ Below w.heap.size w w' := by
  refine (scheduleDrawn_any a n cap zs aP capP rows w hI hn hP hok).mono ?_
  rintro e w' ⟨⟨v, ks, m, ⟨g, c, rfl⟩, rfl, q, hl, hg⟩, hb⟩
  exact ⟨⟨g, 0, c, ks.length, ks, m, rfl, OwnI.ints (s := (some ⟨g, 0, none⟩, ks.length, c)) q, hl, hg⟩, hb⟩
theorem evE_okO {rows : List (List I3)} {ks : List Int} (hp : progOk rows = true) (hl : ¬ 4096 < ks.length) (c0 : (runI rows zeroV [] ks).2.2 = 0) : evE rows ks = evsM rows zeroV ks := by
  unfold evE
  rw [if_neg hl, hp, if_pos rfl, if_pos c0]
theorem evsM_thr {rows : List (List I3)} : ∀ (ks : List Int) (m : V4) (fs : List I3) (i : Nat), (runI rows m fs ks).2.2 = 0 → i < ks.length → (evAt (evsM rows m ks) i).1 = ks.getD i 0
  | [], _, _, i, _, h => by simp at h
  | k :: ks, m, fs, i, hz, hi => by
    obtain ⟨hh, he⟩ := runI_cons hz
    rw [he] at hz
    obtain ⟨h0, h2, _⟩ := halt_can hh
    match i with
    | 0 =>
      show (eventM rows m k.toNat).1 = k
      unfold eventM
      simp only
      omega
    | i + 1 =>
      have := evsM_thr ks _ _ i hz (by simpa using hi)
      show (evAt (evsM rows (goM rows m k).1 ks) i).1 = ks.getD i 0
      exact this
theorem sumN_leN {f : Nat → Nat} {B : Nat} : ∀ n, (∀ i, i < n → f i ≤ B) → sumN f n ≤ n * B
  | 0, _ => by simp [sumN]
  | n + 1, h => by
    have h1 := sumN_leN n (fun i hi => h i (by omega))
    have h2 := h n (by omega)
    show sumN f n + f n ≤ _
    rw [Nat.add_mul, Nat.one_mul]
    omega
theorem raceN_le (es : List I4) : raceN es ≤ es.length * es.length := by
  unfold raceN pairsJ
  refine sumN_leN _ (fun j hj => ?_)
  have := sumN_le (f := fun i => bitN (raceB es i j)) (B := 1) (fun i => bitN_le _) j
  show sumN (fun i => bitN (raceB es i j)) j ≤ _
  omega
theorem order_facts {rows : List (List I3)} {ks : List Int} {m : V4} (hp : progOk rows = true) (h : goesTo rows ks m) (hl : ks.length ≤ 14) :
    evK rows ks = 0 ∧ (evE rows ks).length = ks.length ∧ (∀ i k, befB (depE (evE rows ks)) i k = true → i < k) ∧ (∀ i k, i < k → k < ks.length → ks.getD i 0 = ks.getD k 0 → befB (depE (evE rows ks)) i k = true) ∧ (∀ i k h, befB (depE (evE rows ks)) i k = true → befB (depE (evE rows ks)) k h = true → befB (depE (evE rows ks)) i h = true) := by
  obtain ⟨gZ, gC, gS⟩ := goes_run hp h hl
  have c0 : (runI rows zeroV [] ks).2.2 = 0 := by
    unfold runC at gC
    rw [if_neg (by omega), hp] at gC
    exact gC
  have e0 : evE rows ks = evsM rows zeroV ks := evE_okO hp (by omega) c0
  have hI := evE_three rows ks
  refine ⟨?_, by rw [e0, evsM_len], fun i k hb => (befB_iff.1 hb).lt, fun i k hik hk he => ?_, fun i k h h1 h2 => befB_iff.2 ((befB_iff.1 h1).trans (befB_iff.1 h2))⟩
  · unfold evK
    rw [if_neg (by omega), hp]
    exact c0
  · refine befB_iff.2 (.one hik (depE_thread hI i k hik ?_))
    have t1 := evsM_thr ks zeroV [] i c0 (by omega)
    have t2 := evsM_thr ks zeroV [] k c0 hk
    rw [← e0] at t1 t2
    unfold thE
    rw [t1, t2, he]
theorem bls_cell {w : World} {a : Option Addr} {n : Nat} {xs : List Bool} (h : Bls w a n xs) {t : Nat} (ht : t < n) : ∃ g, a = some ⟨g, 0, none⟩ ∧ w.cell? ⟨g, t, none⟩ = some (.bool (xs.getD t false)) := by
  obtain ⟨h1, h2, h3 | ⟨g, h4, h5, h6⟩⟩ := h
  · clear h2; omega
  · exact ⟨g, h4, h6 t ht⟩
theorem Bls.below {w w' : World} {a : Option Addr} {n : Nat} {xs : List Bool} (h : Bls w a n xs) (hb : Below w.heap.size w w') : Bls w' a n xs := by
  obtain ⟨h1, h2, h3 | ⟨g, h4, h5, h6⟩⟩ := h
  · exact ⟨h1, h2, .inl h3⟩
  · exact ⟨h1, h2, .inr ⟨g, h4, Nat.lt_of_lt_of_le h5 hb.size, fun t ht => (hb.cell (p := ⟨g, t, none⟩) h5).trans (h6 t ht)⟩⟩
theorem ordL_at {es : List I4} {i k : Nat} (hi : i < es.length) (hk : k < es.length) : (ordL es).getD (i * es.length + k) false = befB (depE es) i k := by
  obtain ⟨h1, h2, h3⟩ := at_two hi hk
  simp [ordL, List.getD, h1, h2, h3]
theorem ints_cellO {w : World} {lb lo n c : Nat} {ks : List Int} (h : Ints .i64 w (some ⟨lb, lo, none⟩) n c ks) {i : Nat} (hi : i < n) : w.cell? ⟨lb, lo + i, none⟩ = some (.int .i64 (ks.getD i 0)) := by
  obtain ⟨h1, h2, h3, h4⟩ := h
  rcases h4 with h4 | ⟨b, off, ha, hl, hc⟩
  · omega
  · cases ha
    exact hc i hi

set_option maxHeartbeats 8000000 in
set_option maxRecDepth 100000 in
theorem fnOrder_walk (a0 : Option Addr) (len0 cap0 : Nat) (z0 : List Int) (a1 : Option Addr) (len1 cap1 : Nat) (z1 : List Int) (w : World) (h0 : IsRow .u8 w a0 len0 cap0 z0) (h1 : IsRow .u8 w a1 len1 cap1 z1) (hV : VmShape w) :
    Calls Tryd.prog 4 #[.slice a0 len0 cap0, .slice a1 len1 cap1] w fun e w' => e = .returned (.bool true) ∧ Below w.heap.size w w' := by
  have m0 := h0.len_le
  have m1 := h1.len_le
  unfold maxLen at m0 m1
  by_cases hb0 : 1048576 < len0
  · go_enter Tryd.func4, Tryd.ntmps4
    go_wp2
    go_ret
    exact ⟨rfl, Below.refl _ _⟩
  by_cases hb1 : 1048576 < len1
  · go_enter Tryd.func4, Tryd.ntmps4
    go_wp2
    go_ret
    exact ⟨rfl, Below.refl _ _⟩
  have l0 : len0 ≤ 1048576 := by omega
  have l1 : len1 ≤ 1048576 := by omega
  clear hb0 hb1 m0 m1
  have bW : Below w.heap.size w w := Below.refl _ _
  go_enter Tryd.func4, Tryd.ntmps4
  go_wp2_with fail
  refine (programDrawn_any _ _ _ z0 _ h0 l0).mono ?_
  rintro e w1 ⟨⟨v, rows, hok, rfl, ho⟩, hb⟩
  have h3 := (progOk_parts hok).1
  obtain ⟨a, cap, hv⟩ := ho.slice
  rw [h3] at hv
  subst hv
  have hC := ho.codes (fun r hr x hx => okI_fits ((progOk_parts hok).2 r hr |>.2 x hx))
  clear ho h0
  replace h1 := h1.below hb
  replace hV := hV.below hb
  replace bW := bel_trans bW hb
  clear hb h3
  have HOK : Hid (progOk rows = true) := hok
  clear hok
  have ha : Below w1.heap.size w1 (w1.alloc (.cells #[.slice a 3 cap] 25)) := by go_grown
  have cP : (w1.alloc (.cells #[.slice a 3 cap] 25)).cell? ⟨w1.heap.size, 0, none⟩ = some (.slice a 3 cap) := by simp [go_sem]
  replace h1 := h1.below ha
  replace hV := hV.below ha
  replace hC := hC.below ha
  replace bW := bel_trans bW ha
  clear ha
  go_wp2_with fail
  generalize (w1.alloc (.cells #[.slice a 3 cap] 25)) = wp at *
  generalize w1.heap.size = P at *
  refine (schedule_intsO _ _ _ z1 a cap rows _ h1 l1 hC HOK.out).mono ?_
  rintro e w2 ⟨⟨lb, lo, lc, n, ks, m, rfl, hL, hn14, hg⟩, hb⟩
  replace hV := hV.below hb
  replace hC := hC.below hb
  replace cP := cells_kept hb _ _ cP
  replace bW := bel_trans bW hb
  clear hb h1 l0 l1
  have hln := hL.1
  obtain ⟨fK, fL, fA, fB, fT⟩ := order_facts HOK.out hg (by omega)
  have fN := raceN_le (evE rows ks)
  have kO := fun (W : World) hC hV hL => implOrderOf_is a 3 cap rows (some ⟨lb, lo, none⟩) n lc ks W hC hV hL
  have kQ := fun (W : World) hC hL => specOrderOf_is a 3 cap rows (some ⟨lb, lo, none⟩) n lc ks W hC hL
  have kR := fun (W : World) hC hV hL => implRacesOf_is a 3 cap rows (some ⟨lb, lo, none⟩) n lc ks W hC hV hL
  have kS := fun (W : World) hC hL => specRacesOf_is a 3 cap rows (some ⟨lb, lo, none⟩) n lc ks W hC hL
  have kP := fun (W : World) hC => implProgramOK_is a 3 cap rows W hC
  rw [HOK.out] at kP
  rw [fK] at kO kQ kR kS
  rw [hln] at fL
  obtain ⟨N, hN⟩ : ∃ N, N = n * n := ⟨_, rfl⟩
  have hNb : N ≤ 16777216 := by rw [hN]; exact Nat.le_trans (Nat.mul_le_mul hn14 hn14) (by decide)
  have hw := wrap_sq hN hNb
  have HN : Hid (N = n * n) := hN
  have hOl : (ordL (evE rows ks)).length = N := by rw [ordL_len, fL, hN]
  rw [fL, ← hN] at fN
  have HX : Hid (∀ i k, i < n → k < n → (ordL (evE rows ks)).getD (i * n + k) false = befB (depE (evE rows ks)) i k) := fun i k hi hk => by
    have := ordL_at (es := evE rows ks) (i := i) (k := k) (by omega) (by omega)
    rw [fL] at this
    exact this
  have HA : Hid (∀ i k, befB (depE (evE rows ks)) i k = true → i < k) := fA
  have HB : Hid (∀ i k, i < k → k < n → ks.getD i 0 = ks.getD k 0 → befB (depE (evE rows ks)) i k = true) := fun i k h1 h2 h3 => fB i k h1 (by omega) h3
  have HT : Hid (∀ i k h, befB (depE (evE rows ks)) i k = true → befB (depE (evE rows ks)) k h = true → befB (depE (evE rows ks)) i h = true) := fT
  clear fA fB fT fL fK hg HOK hN hln
  generalize raceN (evE rows ks) = R at *
  generalize ordL (evE rows ks) = xs at *
  generalize befB (depE (evE rows ks)) = bf at *
  go_wp2_with fail
  refine (kO _ hC hV hL).mono ?_
  rintro e w3 ⟨⟨v, rfl, q⟩, hb⟩
  replace hV := hV.below hb
  replace hC := hC.below hb
  replace hL := hL.below hb
  replace cP := cells_kept hb _ _ cP
  replace bW := bel_trans bW hb
  rw [hOl] at q
  obtain ⟨oa, oc, rfl, hO⟩ : ∃ oa oc, v = .slice oa N oc ∧ Bls w3 oa N xs := by
    have h9 := q
    rw [← hOl] at h9
    obtain ⟨x9, y9, e9, b9⟩ := bls_slice h9
    rw [hOl] at e9 b9
    exact ⟨x9, y9, e9, b9⟩
  clear hb q kO
  go_wp2_with fail
  refine (kQ _ hC hL).mono ?_
  rintro e w4 ⟨⟨v, rfl, q⟩, hb⟩
  replace hV := hV.below hb
  replace hC := hC.below hb
  replace hL := hL.below hb
  replace cP := cells_kept hb _ _ cP
  replace hO := hO.below hb
  replace bW := bel_trans bW hb
  rw [hOl] at q
  obtain ⟨pa, pc, rfl, hQ⟩ : ∃ oa oc, v = .slice oa N oc ∧ Bls w4 oa N xs := by
    have h9 := q
    rw [← hOl] at h9
    obtain ⟨x9, y9, e9, b9⟩ := bls_slice h9
    rw [hOl] at e9 b9
    exact ⟨x9, y9, e9, b9⟩
  clear hb q kQ hOl
  go_wp2_with fail
  refine (kR _ hC hV hL).mono ?_
  rintro e w5 ⟨rfl, hb⟩
  replace hV := hV.below hb
  replace hC := hC.below hb
  replace hL := hL.below hb
  replace cP := cells_kept hb _ _ cP
  replace hO := hO.below hb
  replace hQ := hQ.below hb
  replace bW := bel_trans bW hb
  clear hb kR
  go_wp2_with fail
  refine (kS _ hC hL).mono ?_
  rintro e w6 ⟨rfl, hb⟩
  replace hV := hV.below hb
  replace hC := hC.below hb
  replace hL := hL.below hb
  replace cP := cells_kept hb _ _ cP
  replace hO := hO.below hb
  replace hQ := hQ.below hb
  replace bW := bel_trans bW hb
  clear hb kS
  have hNN : ((N : Int) != (N : Int)) = false := by simp
  have hRR : ((R : Int) != (R : Int)) = false := by simp
  have hRN : ¬ (R : Int) > (N : Int) := by omega
  go_wp2_with fail
  generalize hws : w6 = Ws at *
  clear hws hNN hRR hRN fN
  go_loopw [16] (fun si wr => ∃ i : Nat, i ≤ n ∧ si = .int .i64 i ∧ Below Ws.heap.size Ws wr) (fun si _ => n - (intOf si).toNat)
  case atStart => exact ⟨0, by omega, rfl, Below.refl _ _⟩
  case round =>
    obtain ⟨i, hi, rfl, br⟩ := hrel
    by_cases hin : i < n
    · have hin' : (i : Int) < (n : Int) := by omega
      go_wp2_with fail
      go_loopw [17] (fun sk wr => ∃ k : Nat, k ≤ n ∧ sk = .int .i64 k ∧ Below Ws.heap.size Ws wr) (fun sk _ => n - (intOf sk).toNat)
      case atStart => exact ⟨0, by omega, rfl, br⟩
      case round =>
        clear br
        obtain ⟨k, hk, rfl, br⟩ := hrel
        by_cases hkn : k < n
        · have hkn' : (k : Int) < (n : Int) := by omega
          have hi0 : (0 : Int) ≤ (i : Int) := by omega
          have hk0 : (0 : Int) ≤ (k : Int) := by omega
          obtain ⟨M, P, hw1, hw2, hP, hP0, hPe⟩ := ix_two HN.out hNb hin hkn
          have hw1x : IntKind.i64.wrap ((i : Int) * (n : Int)) = (M : Int) := by have h9 := hw1; unfold wrap64 at h9; rw [IntKind.wrap_i64]; exact h9
          have hw2x : IntKind.i64.wrap ((M : Int) + (k : Int)) = (P : Int) := by have h9 := hw2; unfold wrap64 at h9; rw [IntKind.wrap_i64]; exact h9
          have hPN : P < N := by rw [hPe, HN.out]; exact (at_two hin hkn).1
          have hO2 := hO.below br
          have hQ2 := hQ.below br
          obtain ⟨go, rfl, co⟩ := bls_cell hO2 hPN
          obtain ⟨gq, rfl, cq⟩ := bls_cell hQ2 hPN
          have eP : xs.getD P false = bf i k := by rw [hPe]; exact HX.out i k hin hkn
          rw [eP] at co cq
          clear eP
          have li := ints_cellO (hL.below br) hin
          have lk := ints_cellO (hL.below br) hkn
          have hAx := HA.out i k
          have hBx := HB.out i k
          have hTx := fun h => HT.out i k h
          clear hPe
          cases hb : bf i k
          · by_cases hik : i < k
            · have hne : ¬ ks.getD i 0 = ks.getD k 0 := fun e => by have := hBx hik hkn e; rw [hb] at this; cases this
              have hne2 : (ks.getD i 0 == ks.getD k 0) = false := by simp only [beq_eq_false_iff_ne]; exact hne
              have hik' : (i : Int) < (k : Int) := Int.ofNat_lt.2 hik
              rw [hb] at co cq
              have hTx : ∀ h, bf i k = true → bf k h = true → bf i h = true := hTx
              clear hb hAx hBx hne
              generalize ks.getD i 0 = za at *
              generalize ks.getD k 0 = zb at *
              go_wp2
              go_quiet (fail)
              have bz : Below Ws.heap.size Ws (wr.drewN nq) := bel_trans br (below_dN nq)
              clear br co cq li lk hw1x hw2x hw1 hw2 hP hP0 hPN hO2 hQ2
              generalize wr.drewN nq = wq at *
              go_wp2_with fail
              go_loopw [18] (fun sh wz => ∃ h : Nat, h ≤ n ∧ sh = .int .i64 h ∧ wz = wq) (fun sh _ => n - (intOf sh).toNat)
              case atStart => exact ⟨0, by omega, rfl, rfl⟩
              case round =>
                obtain ⟨h, hh, rfl, hwz⟩ := hrel
                subst hwz
                by_cases hhn : h < n
                · have hhn' : (h : Int) < (n : Int) := by omega
                  obtain ⟨M1, P1, w1a, w1b, hP1, hP10, hPe1⟩ := ix_two HN.out hNb hin hkn
                  obtain ⟨M2, P2, w2a, w2b, hP2, hP20, hPe2⟩ := ix_two HN.out hNb hkn hhn
                  obtain ⟨M3, P3, w3a, w3b, hP3, hP30, hPe3⟩ := ix_two HN.out hNb hin hhn
                  have eM : M3 = M1 := (Int.ofNat_inj.1 (w1a.symm.trans w3a)).symm
                  subst eM
                  clear w3a
                  have hOz := hO.below bz
                  obtain ⟨g1, he1, d1⟩ := bls_cell hOz (show P1 < N by rw [hPe1, HN.out]; exact (at_two hin hkn).1)
                  obtain ⟨g2, he2, d2⟩ := bls_cell hOz (show P2 < N by rw [hPe2, HN.out]; exact (at_two hkn hhn).1)
                  obtain ⟨g3, he3, d3⟩ := bls_cell hOz (show P3 < N by rw [hPe3, HN.out]; exact (at_two hin hhn).1)
                  cases he1
                  cases he2
                  cases he3
                  rw [show xs.getD P1 false = bf i k by rw [hPe1]; exact HX.out i k hin hkn] at d1
                  rw [show xs.getD P2 false = bf k h by rw [hPe2]; exact HX.out k h hkn hhn] at d2
                  rw [show xs.getD P3 false = bf i h by rw [hPe3]; exact HX.out i h hin hhn] at d3
                  have hTz := hTx h
                  clear hPe1 hPe2 hPe3 hOz
                  generalize bf i k = p1 at *
                  generalize bf k h = p2 at *
                  generalize bf i h = p3 at *
                  cases p1
                  · go_wp2
                    go_roundw
                    case rel => exact ⟨h + 1, by omega, by go_num, by first | rfl | trivial⟩
                    case measure => simp [intOf]; omega
                  · cases p2
                    · go_wp2
                      go_roundw
                      case rel => exact ⟨h + 1, by omega, by go_num, by first | rfl | trivial⟩
                      case measure => simp [intOf]; omega
                    · have hp3 := hTz rfl rfl
                      subst hp3
                      go_wp2
                      go_roundw
                      case rel => exact ⟨h + 1, by omega, by go_num, by first | rfl | trivial⟩
                      case measure => simp [intOf]; omega
                · obtain rfl : h = n := by omega
                  go_wp2
                  go_roundw
                  case rel => exact ⟨k + 1, by omega, by go_num, bz⟩
                  case measure => simp [intOf]; omega
            · have hik' : decide ((i : Int) < (k : Int)) = false := by simp only [decide_eq_false_iff_not]; exact fun h9 => hik (Int.ofNat_lt.1 h9)
              have hik8 : decide (i < k) = false := by simp only [decide_eq_false_iff_not]; exact hik
              rw [hb] at co cq
              clear hb hAx hBx hik li lk
              have li := True.intro
              have lk := True.intro
              go_wp2
              go_quiet (fail)
              have bz : Below Ws.heap.size Ws (wr.drewN nq) := bel_trans br (below_dN nq)
              clear br co cq li lk hw1x hw2x hw1 hw2 hP hP0 hPN hO2 hQ2
              generalize wr.drewN nq = wq at *
              go_wp2_with fail
              go_loopw [18] (fun sh wz => ∃ h : Nat, h ≤ n ∧ sh = .int .i64 h ∧ wz = wq) (fun sh _ => n - (intOf sh).toNat)
              case atStart => exact ⟨0, by omega, rfl, rfl⟩
              case round =>
                obtain ⟨h, hh, rfl, hwz⟩ := hrel
                subst hwz
                by_cases hhn : h < n
                · have hhn' : (h : Int) < (n : Int) := by omega
                  obtain ⟨M1, P1, w1a, w1b, hP1, hP10, hPe1⟩ := ix_two HN.out hNb hin hkn
                  obtain ⟨M2, P2, w2a, w2b, hP2, hP20, hPe2⟩ := ix_two HN.out hNb hkn hhn
                  obtain ⟨M3, P3, w3a, w3b, hP3, hP30, hPe3⟩ := ix_two HN.out hNb hin hhn
                  have eM : M3 = M1 := (Int.ofNat_inj.1 (w1a.symm.trans w3a)).symm
                  subst eM
                  clear w3a
                  have hOz := hO.below bz
                  obtain ⟨g1, he1, d1⟩ := bls_cell hOz (show P1 < N by rw [hPe1, HN.out]; exact (at_two hin hkn).1)
                  obtain ⟨g2, he2, d2⟩ := bls_cell hOz (show P2 < N by rw [hPe2, HN.out]; exact (at_two hkn hhn).1)
                  obtain ⟨g3, he3, d3⟩ := bls_cell hOz (show P3 < N by rw [hPe3, HN.out]; exact (at_two hin hhn).1)
                  cases he1
                  cases he2
                  cases he3
                  rw [show xs.getD P1 false = bf i k by rw [hPe1]; exact HX.out i k hin hkn] at d1
                  rw [show xs.getD P2 false = bf k h by rw [hPe2]; exact HX.out k h hkn hhn] at d2
                  rw [show xs.getD P3 false = bf i h by rw [hPe3]; exact HX.out i h hin hhn] at d3
                  have hTz := hTx h
                  clear hPe1 hPe2 hPe3 hOz
                  generalize bf i k = p1 at *
                  generalize bf k h = p2 at *
                  generalize bf i h = p3 at *
                  cases p1
                  · go_wp2
                    go_roundw
                    case rel => exact ⟨h + 1, by omega, by go_num, by first | rfl | trivial⟩
                    case measure => simp [intOf]; omega
                  · cases p2
                    · go_wp2
                      go_roundw
                      case rel => exact ⟨h + 1, by omega, by go_num, by first | rfl | trivial⟩
                      case measure => simp [intOf]; omega
                    · have hp3 := hTz rfl rfl
                      subst hp3
                      go_wp2
                      go_roundw
                      case rel => exact ⟨h + 1, by omega, by go_num, by first | rfl | trivial⟩
                      case measure => simp [intOf]; omega
                · obtain rfl : h = n := by omega
                  go_wp2
                  go_roundw
                  case rel => exact ⟨k + 1, by omega, by go_num, bz⟩
                  case measure => simp [intOf]; omega
          · have hik : i < k := hAx hb
            have hik' : (i : Int) < (k : Int) := Int.ofNat_lt.2 hik
            have hge : decide ((i : Int) ≥ (k : Int)) = false := by simp only [decide_eq_false_iff_not]; exact fun h9 => absurd (Int.ofNat_le.1 h9) (Nat.not_le.2 hik)
            have hge8 : decide (k ≤ i) = false := by simp only [decide_eq_false_iff_not]; exact Nat.not_le.2 hik
            rw [hb] at co cq
            clear hAx hBx
            by_cases he : ks.getD i 0 = ks.getD k 0
            · have hne2 : (ks.getD i 0 == ks.getD k 0) = true := by simp only [beq_iff_eq]; exact he
              clear hb he
              generalize ks.getD i 0 = za at *
              generalize ks.getD k 0 = zb at *
              go_wp2
              go_quiet (fail)
              have bz : Below Ws.heap.size Ws (wr.drewN nq) := bel_trans br (below_dN nq)
              clear br co cq li lk hw1x hw2x hw1 hw2 hP hP0 hPN hO2 hQ2
              generalize wr.drewN nq = wq at *
              go_wp2_with fail
              go_loopw [18] (fun sh wz => ∃ h : Nat, h ≤ n ∧ sh = .int .i64 h ∧ wz = wq) (fun sh _ => n - (intOf sh).toNat)
              case atStart => exact ⟨0, by omega, rfl, rfl⟩
              case round =>
                obtain ⟨h, hh, rfl, hwz⟩ := hrel
                subst hwz
                by_cases hhn : h < n
                · have hhn' : (h : Int) < (n : Int) := by omega
                  obtain ⟨M1, P1, w1a, w1b, hP1, hP10, hPe1⟩ := ix_two HN.out hNb hin hkn
                  obtain ⟨M2, P2, w2a, w2b, hP2, hP20, hPe2⟩ := ix_two HN.out hNb hkn hhn
                  obtain ⟨M3, P3, w3a, w3b, hP3, hP30, hPe3⟩ := ix_two HN.out hNb hin hhn
                  have eM : M3 = M1 := (Int.ofNat_inj.1 (w1a.symm.trans w3a)).symm
                  subst eM
                  clear w3a
                  have hOz := hO.below bz
                  obtain ⟨g1, he1, d1⟩ := bls_cell hOz (show P1 < N by rw [hPe1, HN.out]; exact (at_two hin hkn).1)
                  obtain ⟨g2, he2, d2⟩ := bls_cell hOz (show P2 < N by rw [hPe2, HN.out]; exact (at_two hkn hhn).1)
                  obtain ⟨g3, he3, d3⟩ := bls_cell hOz (show P3 < N by rw [hPe3, HN.out]; exact (at_two hin hhn).1)
                  cases he1
                  cases he2
                  cases he3
                  rw [show xs.getD P1 false = bf i k by rw [hPe1]; exact HX.out i k hin hkn] at d1
                  rw [show xs.getD P2 false = bf k h by rw [hPe2]; exact HX.out k h hkn hhn] at d2
                  rw [show xs.getD P3 false = bf i h by rw [hPe3]; exact HX.out i h hin hhn] at d3
                  have hTz := hTx h
                  clear hPe1 hPe2 hPe3 hOz
                  generalize bf i k = p1 at *
                  generalize bf k h = p2 at *
                  generalize bf i h = p3 at *
                  cases p1
                  · go_wp2
                    go_roundw
                    case rel => exact ⟨h + 1, by omega, by go_num, by first | rfl | trivial⟩
                    case measure => simp [intOf]; omega
                  · cases p2
                    · go_wp2
                      go_roundw
                      case rel => exact ⟨h + 1, by omega, by go_num, by first | rfl | trivial⟩
                      case measure => simp [intOf]; omega
                    · have hp3 := hTz rfl rfl
                      subst hp3
                      go_wp2
                      go_roundw
                      case rel => exact ⟨h + 1, by omega, by go_num, by first | rfl | trivial⟩
                      case measure => simp [intOf]; omega
                · obtain rfl : h = n := by omega
                  go_wp2
                  go_roundw
                  case rel => exact ⟨k + 1, by omega, by go_num, bz⟩
                  case measure => simp [intOf]; omega
            · have hne2 : (ks.getD i 0 == ks.getD k 0) = false := by simp only [beq_eq_false_iff_ne]; exact he
              clear hb he
              generalize ks.getD i 0 = za at *
              generalize ks.getD k 0 = zb at *
              go_wp2
              go_quiet (fail)
              have bz : Below Ws.heap.size Ws (wr.drewN nq) := bel_trans br (below_dN nq)
              clear br co cq li lk hw1x hw2x hw1 hw2 hP hP0 hPN hO2 hQ2
              generalize wr.drewN nq = wq at *
              go_wp2_with fail
              go_loopw [18] (fun sh wz => ∃ h : Nat, h ≤ n ∧ sh = .int .i64 h ∧ wz = wq) (fun sh _ => n - (intOf sh).toNat)
              case atStart => exact ⟨0, by omega, rfl, rfl⟩
              case round =>
                obtain ⟨h, hh, rfl, hwz⟩ := hrel
                subst hwz
                by_cases hhn : h < n
                · have hhn' : (h : Int) < (n : Int) := by omega
                  obtain ⟨M1, P1, w1a, w1b, hP1, hP10, hPe1⟩ := ix_two HN.out hNb hin hkn
                  obtain ⟨M2, P2, w2a, w2b, hP2, hP20, hPe2⟩ := ix_two HN.out hNb hkn hhn
                  obtain ⟨M3, P3, w3a, w3b, hP3, hP30, hPe3⟩ := ix_two HN.out hNb hin hhn
                  have eM : M3 = M1 := (Int.ofNat_inj.1 (w1a.symm.trans w3a)).symm
                  subst eM
                  clear w3a
                  have hOz := hO.below bz
                  obtain ⟨g1, he1, d1⟩ := bls_cell hOz (show P1 < N by rw [hPe1, HN.out]; exact (at_two hin hkn).1)
                  obtain ⟨g2, he2, d2⟩ := bls_cell hOz (show P2 < N by rw [hPe2, HN.out]; exact (at_two hkn hhn).1)
                  obtain ⟨g3, he3, d3⟩ := bls_cell hOz (show P3 < N by rw [hPe3, HN.out]; exact (at_two hin hhn).1)
                  cases he1
                  cases he2
                  cases he3
                  rw [show xs.getD P1 false = bf i k by rw [hPe1]; exact HX.out i k hin hkn] at d1
                  rw [show xs.getD P2 false = bf k h by rw [hPe2]; exact HX.out k h hkn hhn] at d2
                  rw [show xs.getD P3 false = bf i h by rw [hPe3]; exact HX.out i h hin hhn] at d3
                  have hTz := hTx h
                  clear hPe1 hPe2 hPe3 hOz
                  generalize bf i k = p1 at *
                  generalize bf k h = p2 at *
                  generalize bf i h = p3 at *
                  cases p1
                  · go_wp2
                    go_roundw
                    case rel => exact ⟨h + 1, by omega, by go_num, by first | rfl | trivial⟩
                    case measure => simp [intOf]; omega
                  · cases p2
                    · go_wp2
                      go_roundw
                      case rel => exact ⟨h + 1, by omega, by go_num, by first | rfl | trivial⟩
                      case measure => simp [intOf]; omega
                    · have hp3 := hTz rfl rfl
                      subst hp3
                      go_wp2
                      go_roundw
                      case rel => exact ⟨h + 1, by omega, by go_num, by first | rfl | trivial⟩
                      case measure => simp [intOf]; omega
                · obtain rfl : h = n := by omega
                  go_wp2
                  go_roundw
                  case rel => exact ⟨k + 1, by omega, by go_num, bz⟩
                  case measure => simp [intOf]; omega
        · obtain rfl : k = n := by omega
          go_wp2
          go_roundw
          case rel => exact ⟨i + 1, by omega, by go_num, br⟩
          case measure => simp [intOf]; omega
    · have hC2 := hC.below br
      have cP2 := cells_kept br _ _ cP
      have bz := bel_trans bW br
      go_wp2_with fail
      refine (kP _ hC2).mono ?_
      rintro e w9 ⟨rfl, hb⟩
      replace bz := bel_trans bz hb
      go_wp2
      go_ret
      exact ⟨rfl, bz⟩

theorem fnOrder_laid {W : World} (h : laidMetH Tryd.prog Rows.fnOrderRow.laid W) : VmShape W := vmShape_of_laid rfl h
theorem fnOrder_door_met (os : Os) (args : Array Value) : laidMetH Tryd.prog Rows.fnOrderRow.laid ((World.doorLaid Tryd.prog 400 os).forCall (fun _ _ => 0) ⟨#[], args, []⟩).memory :=
  laidMetH_of_parts3 (fuel := 8) (laidMet_of_run' 8 (by kernel_rfl) (by kernel_rfl)) (by kernel_rfl) (by kernel_rfl)
end Go.Proofs.YtmhngodbnoonhaaDoor

