/-
  Joined: OrdI, BlsM.
-/
import Derived.Test.YtmhngodbnoonhaaDoorProg
import Derived.Deep.RegionHeld3
import Derived.KernelRfl
import Derived.Tactics
import Derived.WalkKit
import Derived.WalkSpells
import Derived.WalkLawsBesides
import Derived.RegionTactic
import Derived.BigQuiet
import Derived.Deep.QuietTactic
import Derived.Deep.Slices
import Derived.Deep.Strs
import Derived.Deep.Fields
import Derived.ChangeSame
import Derived.Handy
import Derived.OwnWalk
import Derived.ChangeSlices
import Derived.Lib.SmallJoins
import Derived.Shelf.Abstract
import Derived.Laws.BytesArg
import Derived.Deep.RegionLaw
import Derived.Laws.OwnMore
import Derived.Laws.CopyOwn
import Derived.Laws.Tables
import Derived.BigRegion
import Derived.Maps.AppendAt
import Derived.Stop.Asserts
import Derived.Recover
import Derived.IntWalk
import Derived.Deep.MidRow
import Derived.Laws.RangeString
import Derived.Laws.RangeAny
import Derived.Laws.Bits
import Derived.Lib.FieldsP
import Derived.Shelf.SlSortCmp.NoneTotal
import Derived.Shelf.Spec.SlicesGrow
import Derived.Laws.AppendOwnNone
import Derived.Lib.SliceRun
import Derived.Test.YtmhngodbnoonhaaDoorK01
import Derived.Test.YtmhngodbnoonhaaDoorK02
import Derived.Test.YtmhngodbnoonhaaDoorK04
import Derived.Test.YtmhngodbnoonhaaDoorK07
import Derived.Test.YtmhngodbnoonhaaDoorK08
import Derived.Test.YtmhngodbnoonhaaDoorK09
import Derived.Test.YtmhngodbnoonhaaDoorK10
import Derived.Test.YtmhngodbnoonhaaDoorK11
import Derived.Test.YtmhngodbnoonhaaDoorK12
import Derived.Test.YtmhngodbnoonhaaDoorK14
import Derived.Test.YtmhngodbnoonhaaDoorK16
import Derived.Test.YtmhngodbnoonhaaDoorK19
import Derived.Test.YtmhngodbnoonhaaDoorK22
import Derived.Test.YtmhngodbnoonhaaDoorK23
import Derived.Test.YtmhngodbnoonhaaDoorK24
import Derived.Test.YtmhngodbnoonhaaDoorK25
import Derived.Test.YtmhngodbnoonhaaDoorK26
import Derived.Test.YtmhngodbnoonhaaDoorK28
import Derived.Test.YtmhngodbnoonhaaDoorK32
import Derived.Test.YtmhngodbnoonhaaDoorK39
import Derived.Test.YtmhngodbnoonhaaDoorK43
import Derived.Test.YtmhngodbnoonhaaDoorK46
import Derived.Test.YtmhngodbnoonhaaDoorK47

/-
  Both sides' OrderOf.
-/
namespace Go.Proofs.YtmhngodbnoonhaaDoor
open Go.RowKit
set_option linter.unusedVariables false
set_option linter.unusedSimpArgs false

theorem info_boolP : (Tryd.prog.info? 4).map (fun i => (i.zero, i.size, i.bytes)) = some (some (.bool false), 1, 1) := by kernel_rfl
def ZGot (e : Ending) (w : World) (B : Nat) (bs : List Bool) (c : Int) : Prop := ∃ v, e = .returned (.tuple #[v, .int .i64 c]) ∧ w.ownsRow B 4 1 v bs.length (bs.map Value.bool)
noncomputable def ordL (es : List I4) : List Bool := (List.range (es.length * es.length)).map fun q => befB (depE es) (q / es.length) (q % es.length)
theorem ordL_len (es : List I4) : (ordL es).length = es.length * es.length := by simp [ordL]
theorem ordL_tab (es : List I4) : (ordL es).map Value.bool = tab2 es.length (befB (depE es)) := by
  unfold ordL tab2 tab
  rw [List.map_map]
  rfl
theorem ordL_take {es : List I4} {i j : Nat} (hi : i < es.length) (hj : j < es.length) : (ordL es).take (i * es.length + j + 1) = (ordL es).take (i * es.length + j) ++ [befB (depE es) i j] := by
  obtain ⟨h1, h2, h3⟩ := at_two hi hj
  have hl : i * es.length + j < (ordL es).length := by rw [ordL_len]; exact h1
  rw [List.take_add_one, List.getElem?_eq_getElem hl]
  simp only [ordL, List.getElem_map, List.getElem_range, h2, h3]
  rfl

set_option maxHeartbeats 2000000 in
set_option maxRecDepth 100000 in
theorem implOrderOf_is (a : Option Addr) (len cap : Nat) (rows : List (List I3)) (la : Option Addr) (n c : Nat) (ks : List Int) (w : World) (hC : Codes w a len cap rows) (hV : VmShape w) (hL : Ints .i64 w la n c ks) :
    Calls Tryd.prog 20 #[.agg #[.slice a len cap], .slice la n c] w fun e w' => ZGot e w' w.heap.size (ordL (evE rows ks)) (evK rows ks) ∧ Below w.heap.size w w' := by
  obtain ⟨i1, hi1, hz3, hz4, hz5⟩ := info_parts info_boolP
  have hI := evE_three rows ks
  have hE := evE_len9 rows ks
  have kE := fun W (b : Below w.heap.size w W) => implEventsOf_is a len cap rows la n c ks W (hC.below b) (hV.below b) (hL.below b)
  have HN : Hid (evK rows ks ≠ 0 → ordL (evE rows ks) = []) := fun h => by rw [evE_nil h]; rfl
  generalize evE rows ks = es at *
  generalize evK rows ks = cd at *
  have bw : Below w.heap.size w (w.alloc (.cells #[.slice a len cap] 25)) := by go_grown
  have pP : Blk (w.alloc (.cells #[.slice a len cap] 25)) w.heap.size 25 [.slice a len cap] := blkAt _ _ _ rfl
  clear hC hV hL
  go_enter Tryd.func20, Tryd.ntmps20
  go_wp2_with fail
  generalize (w.alloc (.cells #[.slice a len cap] 25)) = U at *
  go_wp2_with (first | refine wpList_load_blk rfl 25 _ rfl w.heap.size rfl pP _ Tryd.underlying25 rfl (by kernel_rfl) ?_)
  refine (kE _ bw).mono ?_
  rintro e w1 ⟨⟨v, rfl, q⟩, hb⟩
  replace bw := bel_trans bw hb
  clear kE pP hb
  by_cases hcd : cd = 0
  case neg =>
    have hne : (cd != 0) = true := by simp [hcd]
    have HE : Hid (ordL es = []) := HN.out hcd
    clear q HN hcd
    go_wp2
    go_ret2
    rw [HE.out]
    exact ⟨⟨_, rfl, World.ownsRow_nil _ _ _ _⟩, bw⟩
  subst hcd
  clear HN
  obtain ⟨ea, ec, rfl, hEv⟩ := evs_slice q
  have hec : es.length ≤ ec := by
    rcases q.2 with ⟨h1, _⟩ | ⟨g9, cap9, cur9, h1, _, _, h2, _⟩
    · simp at h1; omega
    · simp at h1; omega
  clear q
  obtain ⟨n9, hn9⟩ : ∃ n9, n9 = es.length := ⟨_, rfl⟩
  rw [← hn9] at hEv hE hec ⊢
  have HL : Hid (n9 = es.length) := hn9
  clear hn9
  have kC := aheadOver_is ea n9 ec es w1 hEv hE hec hI
  go_wp2_with fail
  refine kC.mono ?_
  rintro e w2 ⟨gE, gC, rfl, hA, hb⟩
  have bw2 := bel_trans bw hb
  clear kC hb bw hEv
  have HT : Hid (∀ i j, i < n9 → j < n9 → (ordL es).take (i * n9 + j + 1) = (ordL es).take (i * n9 + j) ++ [ahdB es i j]) := fun i j hi hj => by
    rw [HL.out] at hi hj ⊢
    rw [ahdB_bef hI]
    exact ordL_take hi hj
  have kA := fun (W : World) (b : Below w2.heap.size w2 W) (i j : Nat) (hi : i < n9) (hj : j < n9) => ahead_is (hA.below b) hI hi hj
  have HQ : Hid (∀ i, i ≤ n9 → i * n9 ≤ 16777216) := fun i hi => Nat.mul_le_mul (Nat.le_trans hi hE) hE
  go_wp2_with fail
  go_loopw [9, 25] (fun sv si wr => ∃ (i : Nat) (vv : Value), i ≤ n9 ∧ vv = sv ∧ si = .int .i64 i ∧ wr.ownsRow w2.heap.size 4 1 vv (i * n9) (((ordL es).take (i * n9)).map Value.bool) ∧ Below w2.heap.size w2 wr) (fun _ si _ => n9 - (intOf si).toNat)
  case atStart => exact ⟨0, _, by omega, rfl, rfl, by rw [Nat.zero_mul]; exact World.ownsRow_nil _ _ _ _, Below.refl _ _⟩
  case round =>
    obtain ⟨i, vv, hi, rfl, rfl, q, b2⟩ := hrel
    by_cases hin : i < n9
    · have hin' : (i : Int) < (n9 : Int) := by omega
      obtain ⟨iN, hiN⟩ : ∃ iN, iN = i * n9 := ⟨_, rfl⟩
      have hb9 := HQ.out i hi
      have HX : Hid (∀ j, j < n9 → (ordL es).take (iN + j + 1) = (ordL es).take (iN + j) ++ [ahdB es i j]) := fun j hj => by rw [hiN]; exact HT.out i j hin hj
      have HI : Hid (iN = i * n9 ∧ iN + n9 = (i + 1) * n9) := ⟨hiN, by rw [hiN, Nat.add_mul, Nat.one_mul]⟩
      rw [← hiN] at q hb9
      clear hiN
      go_wp2_with fail
      go_loopw [9, 30] (fun sv sj wr => ∃ (j : Nat) (uu : Value), j ≤ n9 ∧ uu = sv ∧ sj = .int .i64 j ∧ wr.ownsRow w2.heap.size 4 1 uu (iN + j) (((ordL es).take (iN + j)).map Value.bool) ∧ Below w2.heap.size w2 wr) (fun _ sj _ => n9 - (intOf sj).toNat)
      case atStart => exact ⟨0, _, by omega, rfl, rfl, q, b2⟩
      case round =>
        clear q b2
        obtain ⟨j, uu, hj, rfl, rfl, q, b2⟩ := hrel
        by_cases hjn : j < n9
        · have hjn' : (j : Int) < (n9 : Int) := by omega
          have kAx := kA wr b2 i j hin hjn
          have HX2 : Hid ((ordL es).take (iN + j + 1) = (ordL es).take (iN + j) ++ [ahdB es i j]) := HX.out j hjn
          generalize ahdB es i j = bb at *
          go_wp2_with fail
          refine kAx.mono ?_
          rintro e w3 ⟨rfl, d, rfl⟩
          have q3 := owns_below q (below_dN d)
          have b3 := bel_trans b2 (below_dN d)
          have hsz := b3.size
          clear kAx q b2
          generalize wr.drewN d = w3 at *
          go_wp2_with (at_builtin; refine wpList_append_own _ rfl _ _ 44 rfl w2.heap.size 4 i1 (.bool false) 1 1 Tryd.underlying44 hi1 hz3 hz4 hz5 rfl (by decide) _ _ _ rfl (q3.alloc _) ⟨w3.heap.size, 0, none⟩ 1 1 [.bool bb] rfl rfl (cell_one_new _ _ _) (by simp [Value.oneCell']) ?c3 ?c4 ?c5 ?_)
          case c3 => unfold maxLen; omega
          case c4 => omega
          case c5 => simp; omega
          intro v' wn hown' hgrow hx9
          clear hx9
          have ha : Below w3.heap.size w3 (w3.alloc (.cells #[.bool bb] 4)) := by go_grown
          have R : wn.ownsRow w2.heap.size 4 1 v' (iN + (j + 1)) (((ordL es).take (iN + (j + 1))).map Value.bool) := by
            rw [← Nat.add_assoc, HX2.out, List.map_append, List.map_take]
            exact hown'
          have bn := (bel_trans b3 ha).grown hgrow (Nat.le_trans hsz ha.size) (fun x hx => (q3.lt x hx).1)
          clear hown' hgrow ha q3 b3
          go_wp2
          go_roundw
          case rel => exact ⟨j + 1, _, by omega, rfl, by go_num, R, bn⟩
          case measure => simp [intOf]; omega
        · obtain rfl : j = n9 := by omega
          rw [HI.out.2] at q
          go_wp2
          go_roundw
          case rel => exact ⟨i + 1, _, by omega, rfl, by go_num, q, b2⟩
          case measure => simp [intOf]; omega
    · obtain rfl : i = n9 := by omega
      have hl9 : (ordL es).length = i * i := by rw [ordL_len, ← HL.out]
      rw [List.take_of_length_le (by omega)] at q
      have q9 := own_lowerB (B' := w.heap.size) q bw2.size
      have b9 := bel_trans bw2 b2
      clear q
      go_wp2
      go_ret2
      exact ⟨⟨_, rfl, by rw [hl9]; exact q9⟩, b9⟩

set_option maxHeartbeats 1000000 in
set_option maxRecDepth 100000 in
theorem specOrderOf_is (a : Option Addr) (len cap : Nat) (rows : List (List I3)) (la : Option Addr) (n c : Nat) (ks : List Int) (w : World) (hC : Codes w a len cap rows) (hL : Ints .i64 w la n c ks) :
    Calls Tryd.prog 21 #[.agg #[.slice a len cap], .slice la n c] w fun e w' => ZGot e w' w.heap.size (ordL (evE rows ks)) (evK rows ks) ∧ Below w.heap.size w w' := by
  have hE := evE_len9 rows ks
  have HN : Hid (evK rows ks ≠ 0 → ordL (evE rows ks) = []) := fun h => by rw [evE_nil h]; rfl
  have bw : Below w.heap.size w (w.alloc (.cells #[.slice a len cap] 25)) := by go_grown
  have pP : Blk (w.alloc (.cells #[.slice a len cap] 25)) w.heap.size 25 [.slice a len cap] := blkAt _ _ _ rfl
  by_cases hn : 4096 < n
  · have hn' : (4096 : Int) < (n : Int) := by omega
    have e1 : evK rows ks = 2 := by unfold evK; rw [hL.1, if_pos hn]
    rw [HN.out (by rw [e1]; decide), e1]
    clear hC hL hn pP HN hE e1
    go_enter Tryd.func21, Tryd.ntmps21
    go_wp2
    go_ret2
    exact ⟨⟨_, rfl, by simpa using own_emptyB (w.alloc (.cells #[.slice a len cap] 25)) 4 1 w.heap.size (by simp)⟩, bel_trans bw (by go_grown)⟩
  have hn' : ¬ (4096 : Int) < (n : Int) := by omega
  have kA := fun W (b : Below w.heap.size w W) => l05Ask_is a len cap rows la n c W (hC.below b) hn
  cases hp : progOk rows
  · have e1 : evK rows ks = 1 := by unfold evK; rw [hL.1, if_neg hn, hp]; rfl
    rw [HN.out (by rw [e1]; decide), e1]
    rw [hp] at kA
    simp only [Bool.false_eq_true, if_false] at kA
    clear hp hC hL hn HN hE e1
    go_enter Tryd.func21, Tryd.ntmps21
    go_wp2_with fail
    generalize (w.alloc (.cells #[.slice a len cap] 25)) = U at *
    go_wp2_with (first | refine wpList_load_blk rfl 25 _ rfl w.heap.size rfl pP _ Tryd.underlying25 rfl (by kernel_rfl) ?_)
    refine (kA _ bw).mono ?_
    rintro e w1 ⟨rfl, hb⟩
    replace bw := bel_trans bw hb
    have q := own_emptyB w1 4 1 w.heap.size bw.size
    have bz := bel_trans bw (by go_grown : Below w1.heap.size w1 (w1.alloc (.cells #[] 4)))
    clear hb kA pP bw
    go_wp2
    go_ret2
    exact ⟨⟨_, rfl, q⟩, bz⟩
  · rw [hp] at kA
    simp only [if_true] at kA
    obtain ⟨rfl, cs, hR⟩ := hC.rowsAt hp
    have kE := fun W (b : Below w.heap.size w W) => l05Events_is (cap := cap) (hR.below b) hp (hL.below b) (by omega)
    have e1 : (if (runI rows zeroV [] ks).2.2 = 0 then evsM rows zeroV ks else []) = evE rows ks := by unfold evE; rw [hL.1, if_neg hn, hp]; rfl
    have e2 : (runI rows zeroV [] ks).2.2 = evK rows ks := by unfold evK; rw [hL.1, if_neg hn, hp]; rfl
    rw [e1, e2] at kE
    clear e1 e2
    generalize evE rows ks = es at *
    generalize evK rows ks = cd at *
    clear hp hC hL hn hR
    go_enter Tryd.func21, Tryd.ntmps21
    go_wp2_with fail
    generalize (w.alloc (.cells #[.slice a 3 cap] 25)) = U at *
    go_wp2_with (first | refine wpList_load_blk rfl 25 _ rfl w.heap.size rfl pP _ Tryd.underlying25 rfl (by kernel_rfl) ?_)
    refine (kA _ bw).mono ?_
    rintro e w1 ⟨rfl, hb⟩
    replace bw := bel_trans bw hb
    replace pP := pP.below hb
    clear hb kA
    go_wp2_with (first | refine wpList_load_blk rfl 25 _ rfl w.heap.size rfl pP _ Tryd.underlying25 rfl (by kernel_rfl) ?_)
    refine (kE _ bw).mono ?_
    rintro e w2 ⟨⟨v, rfl, q⟩, hb⟩
    replace bw := bel_trans bw hb
    clear hb kE pP
    by_cases hcd : cd = 0
    · subst hcd
      obtain ⟨ea, ec, rfl, hEv⟩ := evs_slice q
      have kN := l05Order_is ea es.length ec es w2 hEv hE
      unfold OrdGot at kN
      obtain ⟨n9, hn9⟩ : ∃ n9, n9 = es.length := ⟨_, rfl⟩
      have HL : Hid (n9 = es.length) := hn9
      rw [← hn9] at kN hE ⊢
      clear q hEv hn9 HN
      obtain ⟨N9, hN9⟩ : ∃ N9, N9 = n9 * n9 := ⟨_, rfl⟩
      have HM : Hid (N9 = n9 * n9) := hN9
      have hb9 : N9 ≤ 16777216 := by rw [hN9]; exact Nat.mul_le_mul hE hE
      rw [← hN9] at kN
      clear hN9
      go_wp2_with fail
      refine kN.mono ?_
      rintro e w3 ⟨g, rfl, pB, hg, hb⟩
      have q3 : w3.ownsRow w.heap.size 4 1 (.slice (some ⟨g, 0, none⟩) N9 N9) (ordL es).length ((ordL es).map Value.bool) := by
        rw [ordL_len, ← HL.out, ← HM.out, ordL_tab, ← HL.out]
        exact full_of_blk pB (Nat.le_trans bw.size hg) (by rw [tab2_len, HM.out]; omega) (by unfold maxLen; omega)
      replace bw := bel_trans bw hb
      clear hb kN pB
      go_wp2
      go_ret2
      exact ⟨⟨_, rfl, q3⟩, bw⟩
    · have hne : (cd != 0) = true := by simp [hcd]
      have HE : Hid (ordL es = []) := HN.out hcd
      have q9 := own_emptyB w2 4 1 w.heap.size bw.size
      have bz := bel_trans bw (by go_grown : Below w2.heap.size w2 (w2.alloc (.cells #[] 4)))
      clear q HN hcd bw
      go_wp2
      go_ret2
      rw [HE.out]
      exact ⟨⟨_, rfl, q9⟩, bz⟩
end Go.Proofs.YtmhngodbnoonhaaDoor


/-
  Rows of yes and no: the laws' eqBoolS, markBoolS, heldBoolS.
-/
namespace Go.Proofs.YtmhngodbnoonhaaDoor
open Go.RowKit
set_option linter.unusedVariables false
set_option linter.unusedSimpArgs false

def Bls (w : World) (a : Option Addr) (n : Nat) (xs : List Bool) : Prop := xs.length = n ∧ n ≤ maxLen ∧ (n = 0 ∨ ∃ g, a = some ⟨g, 0, none⟩ ∧ g < w.heap.size ∧ ∀ t, t < n → w.cell? ⟨g, t, none⟩ = some (.bool (xs.getD t false)))
theorem bls_of {w : World} {B cap : Nat} {a : Option Addr} {xs : List Bool} (h : w.ownsRow B 4 1 (.slice a xs.length cap) xs.length (xs.map Value.bool)) : Bls w a xs.length xs := by
  rcases h.2 with ⟨h1, h0⟩ | ⟨g, c9, cur, hv, _, _, hnc, hcm, _⟩
  · exact ⟨rfl, by rw [h0]; exact Nat.zero_le _, .inl h0⟩
  · cases hv
    refine ⟨rfl, Nat.le_trans hnc hcm, .inr ⟨g, rfl, (h.lt g rfl).2, fun t ht => ?_⟩⟩
    rw [h.cellAt t (by omega)]
    simp [List.getD, ht]

theorem bls_slice {w : World} {B : Nat} {v : Value} {xs : List Bool} (h : w.ownsRow B 4 1 v xs.length (xs.map Value.bool)) : ∃ a cap, v = .slice a xs.length cap ∧ Bls w a xs.length xs := by
  obtain ⟨a, cap, rfl⟩ := owns_sliceN h
  exact ⟨a, cap, rfl, bls_of h⟩

set_option maxHeartbeats 1000000 in
set_option maxRecDepth 100000 in
theorem eqBls (a a' : Option Addr) (len cap cap' : Nat) (xs : List Bool) (w : World) (h : Bls w a len xs) (h' : Bls w a' len xs) :
    Calls Tryd.prog 39 #[.slice a len cap, .slice a' len cap'] w fun e w' => e = .returned (.bool true) ∧ Below w.heap.size w w' := by
  obtain ⟨hl, hcm, hcase⟩ := h
  obtain ⟨_, _, hcase'⟩ := h'
  unfold maxLen at hcm
  have hne : ((len : Int) != (len : Int)) = false := by simp
  by_cases h0 : len = 0
  · subst h0
    go_enter Tryd.func39, Tryd.ntmps39
    go_wp2
    refine wp_loop_rounds 1 ?_
    rw [rounds_succ]
    go_wp2
    go_ret
    exact ⟨rfl, Below.refl _ _⟩
  · rcases hcase with h0' | ⟨b, rfl, hblt, hcell⟩
    · exact absurd h0' h0
    rcases hcase' with h0' | ⟨b', rfl, hblt', hcell'⟩
    · exact absurd h0' h0
    clear hl
    go_enter Tryd.func39, Tryd.ntmps39
    go_wp2
    go_loopw [5] (fun si wr => ∃ k d : Nat, k ≤ len ∧ si = .int .i64 k ∧ wr = w.drewN d) (fun si _ => len - (intOf si).toNat)
    case atStart => exact ⟨0, 0, by omega, rfl, rfl⟩
    case round =>
      obtain ⟨k, d, hk, rfl, rfl⟩ := hrel
      by_cases hlt : k < len
      · have hc := hcell k hlt
        have hc' := hcell' k hlt
        have hlt' : (k : Int) < (len : Int) := by omega
        clear hcell hcell'
        generalize xs.getD k false = x at hc hc'
        have hxx : (x != x) = false := by simp
        go_wp2
        go_quiet (fail)
        go_wp2
        go_roundw
        case rel => exact ⟨k + 1, _, by omega, by go_num, rfl⟩
        case measure => simp [intOf]; omega
      · clear hcell hcell'
        go_wp2
        go_ret
        exact ⟨rfl, below_dN d⟩
theorem eqBoolS_same (a a' : Option Addr) (len cap cap' : Nat) (xs : List Bool) (w : World) (h : Bls w a len xs) (h' : Bls w a' len xs) :
    Calls Tryd.prog 39 #[.slice a len cap, .slice a' len cap'] w fun e w' => e = .returned (.bool true) ∧ Below w.heap.size w w' := eqBls a a' len cap cap' xs w h h'

def mkZ (k : Int) (xs : List Bool) (j : Nat) : List Bool := (List.range xs.length).map fun i => if i < j then ((k + (i : Int)) % 3 == 0) else xs.getD i false
theorem mkZ_len (k : Int) (xs : List Bool) (j : Nat) : (mkZ k xs j).length = xs.length := by simp [mkZ]
theorem mkZ_zero (k : Int) (xs : List Bool) : mkZ k xs 0 = xs := by
  refine List.ext_getElem (by simp [mkZ]) (fun i h1 h2 => ?_)
  simp [mkZ, List.getD, h2]
theorem mkZ_set (k : Int) (xs : List Bool) (j : Nat) : ((mkZ k xs j).map Value.bool).set j (.bool ((k + (j : Int)) % 3 == 0)) = (mkZ k xs (j + 1)).map Value.bool := by
  refine List.ext_getElem (by simp [mkZ]) (fun i h1 h2 => ?_)
  rw [List.getElem_set]
  simp only [mkZ, List.getElem_map, List.getElem_range]
  by_cases e : j = i
  · subst e; simp
  · rw [if_neg e]
    by_cases h3 : i < j
    · rw [if_pos h3, if_pos (by omega)]
    · rw [if_neg h3, if_neg (by omega)]
theorem mkZ_get {k : Int} {xs : List Bool} {i : Nat} (hi : i < xs.length) : (mkZ k xs xs.length).getD i false = ((k + (i : Int)) % 3 == 0) := by
  simp [mkZ, List.getD, hi]

set_option maxHeartbeats 1000000 in
set_option maxRecDepth 100000 in
theorem markBls (base g n cap : Nat) (k : Int) (xs : List Bool) (w : World) (hl : xs.length = n) (hk0 : 0 ≤ k) (hk : k ≤ 1000000000) (hn : n ≤ 16777216) (ho : w.ownsRow base 4 1 (.slice (some ⟨g, 0, none⟩) n cap) n (xs.map Value.bool)) :
    Calls Tryd.prog 40 #[.slice (some ⟨g, 0, none⟩) n cap, .int .i64 k] w fun e w' => e = .returned (.int .i64 (k + n)) ∧
      w'.ownsRow base 4 1 (.slice (some ⟨g, 0, none⟩) n cap) n ((mkZ k xs n).map Value.bool) ∧ w.grownBy w' (some g) := by
  have HL : Hid (xs.length = n) := hl
  have h0 : w.ownsRow base 4 1 (.slice (some ⟨g, 0, none⟩) n cap) n ((mkZ k xs 0).map Value.bool) := by rw [mkZ_zero]; exact ho
  clear hl ho
  go_enter Tryd.func40, Tryd.ntmps40
  go_wp2
  go_loopw [1, 5] (fun sk si wr => ∃ j : Nat, j ≤ n ∧ sk = .int .i64 (k + j) ∧ si = .int .i64 j ∧ wr.ownsRow base 4 1 (.slice (some ⟨g, 0, none⟩) n cap) n ((mkZ k xs j).map Value.bool) ∧ w.grownBy wr (some g)) (fun _ si _ => n - (intOf si).toNat)
  case atStart => exact ⟨0, by omega, by simp, rfl, h0, World.grownBy.refl _ _⟩
  case round =>
    clear h0
    obtain ⟨j, hj, rfl, rfl, q, gw⟩ := hrel
    by_cases hjn : j < n
    · have hjn' : (j : Int) < (n : Int) := by omega
      have hj0 : (0 : Int) ≤ (j : Int) := by omega
      have hc := (q.cellAt j (by omega)).trans (show ((mkZ k xs j).map Value.bool)[j]? = some (.bool ((mkZ k xs j).getD j false)) by simp [List.getD, show j < (mkZ k xs j).length by rw [mkZ_len, HL.out]; exact hjn])
      have hf := q.frozenAt j
      have s1 := q.stored j (.bool ((k + (j : Int)) % 3 == 0))
      rw [mkZ_set] at s1
      have g2 := grown_tr gw s1.2
      have q2 := s1.1
      have hm : Int.tmod (k + (j : Int)) 3 = (k + (j : Int)) % 3 := Int.tmod_eq_emod_of_nonneg (by omega)
      generalize (mkZ k xs j).getD j false = x at hc
      clear q gw s1
      go_wp2
      go_roundw
      case rel => exact ⟨j + 1, by omega, by go_num, by go_num, q2, g2⟩
      case measure => simp [intOf]; omega
    · obtain rfl : j = n := by omega
      go_wp2
      go_ret
      exact ⟨rfl, q, gw⟩
theorem markBoolS_any (base : Nat) (v : Value) (k : Int) (xs : List Bool) (w : World) (hk0 : 0 ≤ k) (hk : k ≤ 1000000000) (hn : xs.length ≤ 16777216) (ho : w.ownsRow base 4 1 v xs.length (xs.map Value.bool)) :
    Calls Tryd.prog 40 #[v, .int .i64 k] w fun e w' => e = .returned (.int .i64 (k + xs.length)) ∧
      w'.ownsRow base 4 1 v xs.length ((mkZ k xs xs.length).map Value.bool) ∧ w.grownBy w' v.ownBlock := by
  rcases ho.2 with ⟨rfl, h0⟩ | ⟨g, cap, cur, rfl, _⟩
  · have hx : xs = [] := List.eq_nil_of_length_eq_zero h0
    subst hx
    go_enter Tryd.func40, Tryd.ntmps40
    go_wp2
    refine wp_loop_rounds 1 ?_
    rw [rounds_succ]
    go_wp2
    go_ret
    exact ⟨by simp, ho, World.grownBy.refl _ _⟩
  · refine (markBls base g xs.length cap k xs w rfl hk0 hk hn ho).mono ?_
    rintro e w' ⟨rfl, h1, h2⟩
    exact ⟨rfl, h1, h2⟩

set_option maxHeartbeats 1000000 in
set_option maxRecDepth 100000 in
theorem heldBls (a : Option Addr) (n cap : Nat) (k : Int) (xs : List Bool) (w : World) (hl : xs.length = n) (hk0 : 0 ≤ k) (hk : k ≤ 1000000000) (hn : n ≤ 16777216) (h : Bls w a n (mkZ k xs n)) :
    Calls Tryd.prog 41 #[.slice a n cap, .int .i64 k] w fun e w' => e = .returned (.int .i64 (k + n)) ∧ w = w' := by
  have HL : Hid (xs.length = n) := hl
  obtain ⟨_, hcm, hcase⟩ := h
  clear hl hcm
  go_enter Tryd.func41, Tryd.ntmps41
  go_wp2
  go_loopw [1, 5] (fun sk si wr => ∃ j : Nat, j ≤ n ∧ sk = .int .i64 (k + j) ∧ si = .int .i64 j ∧ w = wr) (fun _ si _ => n - (intOf si).toNat)
  case atStart => exact ⟨0, by omega, by simp, rfl, rfl⟩
  case round =>
    obtain ⟨j, hj, rfl, rfl, rfl⟩ := hrel
    by_cases hjn : j < n
    · have hjn' : (j : Int) < (n : Int) := by omega
      have hj0 : (0 : Int) ≤ (j : Int) := by omega
      rcases hcase with h0 | ⟨g, rfl, hg, hcell⟩
      · omega
      have hc := hcell j hjn
      have e9 : (mkZ k xs n).getD j false = ((k + (j : Int)) % 3 == 0) := by
        have := mkZ_get (k := k) (xs := xs) (i := j) (by rw [HL.out]; exact hjn)
        rw [HL.out] at this
        exact this
      rw [e9] at hc
      have hm : Int.tmod (k + (j : Int)) 3 = (k + (j : Int)) % 3 := Int.tmod_eq_emod_of_nonneg (by omega)
      have hbb : (((k + (j : Int)) % 3 == 0) != ((k + (j : Int)) % 3 == 0)) = false := by simp
      clear hcell e9
      go_wp2
      go_roundw
      case rel => exact ⟨j + 1, by omega, by go_num, by go_num, by first | rfl | trivial⟩
      case measure => simp [intOf]; omega
    · obtain rfl : j = n := by omega
      clear hcase
      go_wp2
      go_ret
      exact ⟨rfl, rfl⟩
theorem heldBoolS_any (base : Nat) (v : Value) (k : Int) (xs : List Bool) (w : World) (hk0 : 0 ≤ k) (hk : k ≤ 1000000000) (hn : xs.length ≤ 16777216) (ho : w.ownsRow base 4 1 v xs.length ((mkZ k xs xs.length).map Value.bool)) :
    Calls Tryd.prog 41 #[v, .int .i64 k] w fun e w' => e = .returned (.int .i64 (k + xs.length)) ∧ w = w' := by
  obtain ⟨a, cap, rfl⟩ := owns_sliceN ho
  have hz := mkZ_len k xs xs.length
  have hb : Bls w a xs.length (mkZ k xs xs.length) := by
    have h9 := bls_of (B := base) (cap := cap) (a := a) (xs := mkZ k xs xs.length) (by rw [hz]; exact ho)
    rw [hz] at h9
    exact h9
  exact heldBls a xs.length cap k xs w rfl hk0 hk hn hb
end Go.Proofs.YtmhngodbnoonhaaDoor

