/-
  Joined: EvF, CmtQ, NorI.
-/
import Derived.Test.YtdojjmkpelgcaaaDoorProg
import Derived.Deep.RegionHeld3
import Derived.KernelRfl
import Derived.Tactics
import Derived.WalkKit
import Derived.WalkSpells
import Derived.WalkLawsBesides
import Derived.RegionTactic
import Derived.BigQuiet
import Derived.Deep.QuietTactic
import Derived.Deep.Slices
import Derived.Deep.Strs
import Derived.Deep.Fields
import Derived.ChangeSame
import Derived.Handy
import Derived.OwnWalk
import Derived.ChangeSlices
import Derived.Lib.SmallJoins
import Derived.Shelf.Abstract
import Derived.Laws.BytesArg
import Derived.Deep.RegionLaw
import Derived.Laws.OwnMore
import Derived.Laws.CopyOwn
import Derived.Laws.Tables
import Derived.BigRegion
import Derived.Maps.AppendAt
import Derived.Stop.Asserts
import Derived.Recover
import Derived.Laws.RangeString
import Derived.Laws.RangeAny
import Derived.Laws.Bits
import Derived.Lib.FieldsP
import Derived.Shelf.SlSortCmp.NoneTotal
import Derived.Shelf.Spec.SlicesGrow
import Derived.Laws.AppendOwnNone
import Derived.Lib.SliceRun
import Derived.Deep.MidRow
import Derived.IntWalk
import Derived.Test.YtdojjmkpelgcaaaDoorK01
import Derived.Test.YtdojjmkpelgcaaaDoorK02
import Derived.Test.YtdojjmkpelgcaaaDoorK04
import Derived.Test.YtdojjmkpelgcaaaDoorK06
import Derived.Test.YtdojjmkpelgcaaaDoorK08
import Derived.Test.YtdojjmkpelgcaaaDoorK09
import Derived.Test.YtdojjmkpelgcaaaDoorK11
import Derived.Test.YtdojjmkpelgcaaaDoorK12
import Derived.Test.YtdojjmkpelgcaaaDoorK13
import Derived.Test.YtdojjmkpelgcaaaDoorK16
import Derived.Test.YtdojjmkpelgcaaaDoorK18
import Derived.Test.YtdojjmkpelgcaaaDoorK21
import Derived.Test.YtdojjmkpelgcaaaDoorK22
import Derived.Test.YtdojjmkpelgcaaaDoorK23
import Derived.Test.YtdojjmkpelgcaaaDoorK25
import Derived.Test.YtdojjmkpelgcaaaDoorK27
import Derived.Test.YtdojjmkpelgcaaaDoorK31
import Derived.Test.YtdojjmkpelgcaaaDoorK32
import Derived.Test.YtdojjmkpelgcaaaDoorK39
import Derived.Test.YtdojjmkpelgcaaaDoorK40
import Derived.Test.YtdojjmkpelgcaaaDoorK41
import Derived.Test.YtdojjmkpelgcaaaDoorK43

/-
  Both sides' EventsOf.
-/
namespace Go.Proofs.YtdojjmkpelgcaaaDoor
open Go.RowKit
set_option linter.unusedVariables false
set_option linter.unusedSimpArgs false

set_option maxHeartbeats 800000 in
set_option maxRecDepth 100000 in
theorem implEventsOf_is (a : Option Addr) (len cap : Nat) (rows : List (List I3)) (la : Option Addr) (n c : Nat) (ks : List Int) (w : World) (hC : Codes w a len cap rows) (hV : VmShape w) (hL : Ints .i64 w la n c ks) :
    Calls Tryd.prog 55 #[.agg #[.slice a len cap], .slice la n c] w fun e w' => EvGot e w' w.heap.size (evE rows ks) (evK rows ks) ∧ Below w.heap.size w w' := by
  unfold evE evK
  rw [hL.1]
  have bw : Below w.heap.size w (w.alloc (.cells #[.slice a len cap] 25)) := by go_grown
  have pP : Blk (w.alloc (.cells #[.slice a len cap] 25)) w.heap.size 25 [.slice a len cap] := blkAt _ _ _ rfl
  by_cases hn : 4096 < n
  · have hn' : (4096 : Int) < (n : Int) := by omega
    simp only [if_pos hn]
    clear hC hL hn pP hV
    go_enter Tryd.func55, Tryd.ntmps55
    go_wp2
    go_ret2
    exact ⟨⟨_, rfl, World.ownsRow_nil _ _ _ _⟩, bw⟩
  simp only [if_neg hn]
  have hn' : ¬ (4096 : Int) < (n : Int) := by omega
  cases hp : progOk rows
  · have kN := fun W (b : Below w.heap.size w W) => newReplay_bad (hC.below b) (hV.below b) hp
    simp only [Bool.false_eq_true, if_false]
    clear hp hC hL hn hV
    go_enter Tryd.func55, Tryd.ntmps55
    go_wp2_with fail
    generalize (w.alloc (.cells #[.slice a len cap] 25)) = U at *
    go_wp2_with (first | refine wpList_load_blk rfl 25 _ rfl w.heap.size rfl pP _ Tryd.underlying25 rfl (by kernel_rfl) ?_)
    refine (kN _ bw).mono ?_
    rintro e w1 ⟨rfl, hb⟩
    replace bw := bel_trans bw hb
    have pN := Blk.new w1 133 [.slice none 0 0, .int .i64 0, .int .i64 0, .int .i64 0, .slice none 0 0, .int .i64 0, .int .i64 0, .int .i64 0, .slice none 0 0, .int .i64 0, .int .i64 0, .int .i64 0, .int .i64 0, .int .i64 0, .int .i64 0, .int .i64 0, .int .i64 0, .int .i64 0, .slice none 0 0]
    have ha : Below w1.heap.size w1 (w1.alloc (.cells #[.slice none 0 0, .int .i64 0, .int .i64 0, .int .i64 0, .slice none 0 0, .int .i64 0, .int .i64 0, .int .i64 0, .slice none 0 0, .int .i64 0, .int .i64 0, .int .i64 0, .int .i64 0, .int .i64 0, .int .i64 0, .int .i64 0, .int .i64 0, .int .i64 0, .slice none 0 0] 133)) := by go_grown
    have hgw : w.heap.size ≤ w1.heap.size := bw.size
    clear kN hb pP
    go_wp2_with (refine wpList_store_blk rfl 133 _ _ rfl w1.heap.size [.slice none 0 0, .int .i64 0, .int .i64 0, .int .i64 0, .slice none 0 0, .int .i64 0, .int .i64 0, .int .i64 0, .slice none 0 0, .int .i64 0, .int .i64 0, .int .i64 0, .int .i64 0, .int .i64 0, .int .i64 0, .int .i64 0, .int .i64 0, .int .i64 0, .slice none 0 0] rfl rfl pN (by kernel_rfl) rfl rfl ?_)
    intro W9 pM g1
    replace bw := (bel_trans bw ha).grown g1 (by simp; omega) (fun x hx => by cases hx; omega)
    clear g1 ha pN pM
    generalize w1.heap.size = g at *
    go_wp2
    go_ret2
    exact ⟨⟨_, rfl, World.ownsRow_nil _ _ _ _⟩, bw⟩
  · simp only [if_true]
    obtain ⟨rfl, cs, hR⟩ := hC.rowsAt hp
    exact implEventsOf_ok a cap rows la n c ks w hC hV hp hL hn

set_option maxHeartbeats 800000 in
set_option maxRecDepth 100000 in
theorem l05Ask_is (a : Option Addr) (len cap : Nat) (rows : List (List I3)) (la : Option Addr) (n c : Nat) (w : World) (hC : Codes w a len cap rows) (hn : ¬ 4096 < n) :
    Calls Tryd.prog 51 #[.agg #[.slice a len cap], .slice la n c] w fun e w' => e = .returned (.int .i64 (if progOk rows then 0 else 1)) ∧ Below w.heap.size w w' := by
  have bw : Below w.heap.size w (w.alloc (.cells #[.slice a len cap] 25)) := by go_grown
  have pP : Blk (w.alloc (.cells #[.slice a len cap] 25)) w.heap.size 25 [.slice a len cap] := blkAt _ _ _ rfl
  have hn' : ¬ (4096 : Int) < (n : Int) := by omega
  have kP := fun W (b : Below w.heap.size w W) => specProgramOK_is a len cap rows W (hC.below b)
  cases hp : progOk rows
  · rw [hp] at kP
    clear hC hn hp
    go_enter Tryd.func51, Tryd.ntmps51
    go_wp2_with fail
    generalize (w.alloc (.cells #[.slice a len cap] 25)) = U at *
    go_wp2_with (first | refine wpList_load_blk rfl 25 _ rfl w.heap.size rfl pP _ Tryd.underlying25 rfl (by kernel_rfl) ?_)
    refine (kP _ bw).mono ?_
    rintro e w1 ⟨rfl, hb⟩
    replace bw := bel_trans bw hb
    clear hb kP pP
    go_wp2
    go_ret
    exact ⟨rfl, bw⟩
  · rw [hp] at kP
    clear hC hn hp
    go_enter Tryd.func51, Tryd.ntmps51
    go_wp2_with fail
    generalize (w.alloc (.cells #[.slice a len cap] 25)) = U at *
    go_wp2_with (first | refine wpList_load_blk rfl 25 _ rfl w.heap.size rfl pP _ Tryd.underlying25 rfl (by kernel_rfl) ?_)
    refine (kP _ bw).mono ?_
    rintro e w1 ⟨rfl, hb⟩
    replace bw := bel_trans bw hb
    clear hb kP pP
    go_wp2
    go_ret
    exact ⟨rfl, bw⟩

end Go.Proofs.YtdojjmkpelgcaaaDoor


/-
  Neighbours of a schedule that do not depend on one another change places: the same state, the same events.
-/
namespace Go.Proofs.YtdojjmkpelgcaaaDoor
open Go.RowKit
set_option linter.unusedVariables false
set_option linter.unusedSimpArgs false

theorem runI_cons {rows : List (List I3)} {m : V4} {fs : List I3} {k : Int} {ks : List Int} (h : (runI rows m fs (k :: ks)).2.2 = 0) : haltM rows m k = 0 ∧ runI rows m fs (k :: ks) = runI rows (goM rows m k).1 (fs ++ ownM rows m k) ks := by
  have e : runI rows m fs (k :: ks) = if haltM rows m k = 0 then runI rows (goM rows m k).1 (fs ++ ownM rows m k) ks else (m, fs, haltM rows m k) := rfl
  by_cases hz : haltM rows m k = 0
  · rw [if_pos hz] at e
    exact ⟨hz, e⟩
  · rw [e, if_neg hz] at h
    exact absurd h hz
theorem evsM_len (rows : List (List I3)) : ∀ (ks : List Int) (m : V4), (evsM rows m ks).length = ks.length
  | [], m => rfl
  | k :: ks, m => by show (evsM rows (goM rows m k).1 ks).length + 1 = ks.length + 1; rw [evsM_len rows ks]
end Go.Proofs.YtdojjmkpelgcaaaDoor


/-
  The program's NormalOf.
-/
namespace Go.Proofs.YtdojjmkpelgcaaaDoor
open Go.RowKit
set_option linter.unusedVariables false
set_option linter.unusedSimpArgs false

def LGot (e : Ending) (w : World) (B : Nat) (ks : List Int) (c : Int) : Prop := ∃ v, e = .returned (.tuple #[v, .int .i64 c]) ∧ w.ownsRow B 3 1 v ks.length (ks.map (Value.int .i64))
noncomputable def stJ (es : List I4) (s : Nat) : (Nat → Nat) × List Nat := stI (depE es) (thE es) es.length s
theorem stJ_next (es : List I4) (s : Nat) : stJ es (s + 1) = (fun t => (stJ es s).1 t + (if t = leastT (okN (depE es) (thE es) (stJ es s).1) (thE es) es.length then 1 else 0), (stJ es s).2 ++ [leastT (okN (depE es) (thE es) (stJ es s).1) (thE es) es.length]) := rfl
theorem stJ_bound (es : List I4) (t : Nat) : ∀ s, (stJ es s).1 t ≤ s
  | 0 => Nat.le_refl _
  | s + 1 => by
    rw [stJ_next]
    have := stJ_bound es t s
    show (stJ es s).1 t + _ ≤ _
    split <;> omega
theorem stJ_least {es : List I4} (h : inThree es) {s : Nat} (hs : s < es.length) : leastT (okN (depE es) (thE es) (stJ es s).1) (thE es) es.length < 3 := by
  obtain ⟨_, _, _, h4⟩ := norm_same (D := depE es) (B := befB (depE es)) (depE_thread h) (thE_three h) (n := es.length) (fun i k _ _ => befB_iff) s (by omega)
  obtain ⟨b, _, _, hl⟩ := h4 hs
  unfold stJ
  rw [hl]
  exact thE_three h b
theorem stJ_end {es : List I4} (h : inThree es) : (stJ es es.length).2.map (fun t : Nat => (t : Int)) = nrmE es := by
  unfold nrmE stJ
  rw [(norm_is h).2]
theorem stJ_len (es : List I4) : ∀ s, (stJ es s).2.length = s
  | 0 => rfl
  | s + 1 => by rw [stJ_next, List.length_append, stJ_len es s]; rfl
theorem nrmE_len {es : List I4} (h : inThree es) : (nrmE es).length = es.length := by
  rw [← stJ_end h, List.length_map, stJ_len]
theorem evsM_three {rows : List (List I3)} : ∀ (ks : List Int) (m : V4) (fs : List I3), (runI rows m fs ks).2.2 = 0 → inThree (evsM rows m ks)
  | [], _, _, _ => fun x hx => by simp [evsM] at hx
  | k :: ks, m, fs, h => by
    obtain ⟨hz, he⟩ := runI_cons h
    rw [he] at h
    have ih := evsM_three ks _ _ h
    obtain ⟨h0, h2, _⟩ := halt_can hz
    intro x hx
    simp only [evsM, List.mem_cons] at hx
    rcases hx with rfl | hx
    · show 0 ≤ (eventM rows m k.toNat).1 ∧ (eventM rows m k.toNat).1 < 3
      unfold eventM
      simp only
      omega
    · exact ih x hx
theorem evE_three (rows : List (List I3)) (ks : List Int) : inThree (evE rows ks) := by
  unfold evE
  split
  · intro x hx; simp at hx
  · split
    · split
      · rename_i h; exact evsM_three ks _ _ h
      · intro x hx; simp at hx
    · intro x hx; simp at hx
theorem evE_len9 (rows : List (List I3)) (ks : List Int) : (evE rows ks).length ≤ 4096 := by
  unfold evE
  split
  · simp
  · split
    · split
      · rw [evsM_len]; omega
      · simp
    · simp
theorem evE_nil {rows : List (List I3)} {ks : List Int} (h : evK rows ks ≠ 0) : evE rows ks = [] := by
  unfold evK at h
  unfold evE
  split at h
  · rename_i h1; rw [if_pos h1]
  · rename_i h1
    rw [if_neg h1]
    split at h
    · rename_i h2; rw [if_pos h2, if_neg h]
    · rename_i h2; rw [if_neg h2]
def OnNrm (w wr : World) (gT : Nat) (es : List I4) (s : Nat) (v : Value) : Prop :=
  Blk wr gT 140 (tab 3 fun u => .int .i64 ((stJ es s).1 u : Nat)) ∧ wr.ownsRow w.heap.size 3 1 v s (((stJ es s).2.map (fun t : Nat => (t : Int))).map (Value.int .i64)) ∧ Below w.heap.size w wr

def L1Got (e : Ending) (w : World) (B : Nat) (ks : List Int) : Prop := ∃ v, e = .returned v ∧ w.ownsRow B 3 1 v ks.length (ks.map (Value.int .i64))

set_option maxHeartbeats 2000000 in
set_option maxRecDepth 100000 in
theorem normalOf_is (ea : Option Addr) (n9 ec : Nat) (es : List I4) (w1 : World) (hEv : Evs w1 ea n9 es) (hE : n9 ≤ 4096) (hec : n9 ≤ ec) (hI : inThree es) (hn9 : n9 = es.length) :
    Calls Tryd.prog 56 #[.slice ea n9 ec] w1 fun e w' => L1Got e w' w1.heap.size (nrmE es) ∧ Below w1.heap.size w1 w' := by
  obtain ⟨i1, hi, hz3, hz4, hz5⟩ := info_parts info_int
  have HL : Hid (n9 = es.length) := hn9
  clear hn9
  have kC := clocksOf_is ea n9 ec es w1 hEv hE hec hI
  go_enter Tryd.func56, Tryd.ntmps56
  go_wp2_with fail
  refine kC.mono ?_
  rintro e w2 ⟨gC, rfl, pC, hgC, hb⟩
  have hEv2 := hEv.below hb
  have bw2 := hb
  clear kC hb hEv hgC
  have ha : Below w2.heap.size w2 (w2.alloc (.cells #[.int .i64 0, .int .i64 0, .int .i64 0] 140)) := by go_grown
  have pT := Blk.new w2 140 [.int .i64 0, .int .i64 0, .int .i64 0]
  have st : OnNrm w2 (w2.alloc (.cells #[.int .i64 0, .int .i64 0, .int .i64 0] 140)) w2.heap.size es 0 (.slice none 0 0) := ⟨pT, World.ownsRow_nil _ _ _ _, ha⟩
  have HLs : Hid (∀ s, s < n9 → leastT (okN (depE es) (thE es) (stJ es s).1) (thE es) n9 < 3) := fun s hs => by
    have := stJ_least hI (s := s) (by rw [← HL.out]; exact hs)
    rw [← HL.out] at this
    exact this
  have HNx : Hid (∀ s, stJ es (s + 1) = (fun t => (stJ es s).1 t + (if t = leastT (okN (depE es) (thE es) (stJ es s).1) (thE es) n9 then 1 else 0), (stJ es s).2 ++ [leastT (okN (depE es) (thE es) (stJ es s).1) (thE es) n9])) := fun s => by rw [HL.out]; exact stJ_next es s
  have kL := fun W (b : Below w2.heap.size w2 W) (f : Nat → Nat) (hf : ∀ t, f t ≤ 5000) => leastThread_is ea n9 ec gC es W (hEv2.below b) hE hI (pC.below b) f hf
  unfold ck at kL
  obtain ⟨gT, hgT⟩ : ∃ gT, gT = w2.heap.size := ⟨_, rfl⟩
  have hgTw : w2.heap.size ≤ gT := by omega
  rw [← hgT] at st
  have HG : Hid (gT = w2.heap.size) := hgT
  clear pC hEv2 pT ha hgT
  go_wp2_with fail
  rw [← HG.out]
  go_loopw [4, 11] (fun sv si wr => ∃ (s : Nat) (vv : Value), s ≤ n9 ∧ vv = sv ∧ si = .int .i64 s ∧ OnNrm w2 wr gT es s vv) (fun _ si _ => n9 - (intOf si).toNat)
  case atStart => exact ⟨0, _, by omega, rfl, rfl, st⟩
  case round =>
    clear st
    obtain ⟨s, vv, hs, rfl, rfl, pT, q, b2⟩ := hrel
    by_cases hsn : s < n9
    · have hsn' : (s : Int) < (n9 : Int) := by omega
      have kLx := kL wr b2 (stJ es s).1 (fun t => by have := stJ_bound es t s; omega)
      have hl3 := HLs.out s hsn
      have HX : Hid (stJ es (s + 1) = _) := HNx.out s
      have hll := stJ_len es s
      have hbd := fun t => stJ_bound es t s
      generalize leastT (okN (depE es) (thE es) (stJ es s).1) (thE es) n9 = l at *
      have pT9 := pT
      rw [tab_three] at pT9
      go_wp2_with (first | refine wpList_load_blk rfl 140 _ rfl gT rfl pT9 _ Tryd.underlying140 rfl (by kernel_rfl) ?_)
      refine kLx.mono ?_
      rintro e w3 ⟨rfl, hb⟩
      have pT3 := pT.below hb
      have q3 := owns_below q hb
      have b3 := bel_trans b2 hb
      clear kLx hb pT pT9 q b2
      have ht9 : (l : Int) < 3 := by omega
      have ht8 : (0 : Int) ≤ (l : Int) := by omega
      have c0 := (pT3.cell l).trans (tab_get _ hl3)
      have f0 := pT3.frozen l
      have hft := hbd l
      have pT4 : Hid (Blk (w3.setCell ⟨gT, l, none⟩ (.int .i64 (((stJ es s).1 l : Nat) + 1 : Int))) gT 140 (tab 3 fun u => .int .i64 ((stJ es (s + 1)).1 u : Nat))) := by
        have := pT3.set l (.int .i64 (((stJ es s).1 l : Nat) + 1 : Int))
        rw [tab_set] at this
        unfold Hid
        rw [HX.out]
        refine this.trans ?_
        congr 3
        refine tab_congr (fun u _ => ?_)
        by_cases e : u = l
        · subst e; simp
        · simp [e]
      have gs : w3.grownBy (w3.setCell ⟨gT, l, none⟩ (.int .i64 (((stJ es s).1 l : Nat) + 1 : Int))) (some gT) := ⟨rfl, rfl, rfl, by simp, fun i _ hr => Below.heap_setCell w3 ⟨gT, l, none⟩ _ i (fun e => hr (by rw [e]))⟩
      have q4 := q3.kept gs (.inr (own_ne_blk q3 pT3 (by decide)))
      have b4 := b3.grown gs b3.size (fun x hx => by cases hx; exact hgTw)
      have hsz := b4.size
      clear pT3 q3 b3 gs
      obtain ⟨wx, hwx⟩ : ∃ wx, wx = w3.setCell ⟨gT, l, none⟩ (.int .i64 (((stJ es s).1 l : Nat) + 1 : Int)) := ⟨_, rfl⟩
      rw [← hwx] at pT4 q4 b4 hsz
      have HW : Hid (wx = w3.setCell ⟨gT, l, none⟩ (.int .i64 (((stJ es s).1 l : Nat) + 1 : Int))) := hwx
      have HZ : Hid (w3.heap.size = wx.heap.size) := by rw [Hid, hwx]; simp
      clear hwx
      go_wp2_with (at_builtin; rw [← HW.out]; (try rw [HZ.out]); refine wpList_append_own _ rfl _ _ 27 rfl w2.heap.size 3 i1 (.int .i64 0) 1 8 Tryd.underlying27 hi hz3 hz4 hz5 rfl (by decide) _ _ _ rfl (q4.alloc _) ⟨wx.heap.size, 0, none⟩ 1 1 [.int .i64 (l : Int)] rfl rfl (cell_one_new _ _ _) (by simp [Value.oneCell']) ?c3 ?c4 ?c5 ?_)
      case c3 => unfold maxLen; omega
      case c4 => omega
      case c5 => simp; omega
      intro v' wn hown' hgrow hx9
      clear hx9
      have ha : Below wx.heap.size wx (wx.alloc (.cells #[.int .i64 (l : Int)] 3)) := by go_grown
      have R : wn.ownsRow w2.heap.size 3 1 v' (s + 1) (((stJ es (s + 1)).2.map (fun t : Nat => (t : Int))).map (Value.int .i64)) := by
        rw [HX.out]
        simp only [List.map_append, List.map_map, List.map_cons, List.map_nil, Function.comp_apply]
        exact hown'
      have qa := owns_below q4 ha
      have st2 : OnNrm w2 wn gT es (s + 1) v' := by
        have pTa := pT4.out.below ha
        exact ⟨pTa.kept hgrow (own_ne_blk qa pTa (by decide)), R, (bel_trans b4 ha).grown hgrow (Nat.le_trans hsz ha.size) (fun x hx => (q4.lt x hx).1)⟩
      clear hown' hgrow R qa ha q4 pT4 b4
      go_wp2
      go_roundw
      case rel => exact ⟨s + 1, _, by omega, rfl, by go_num, st2⟩
      case measure => simp [intOf]; omega
    · obtain rfl : s = n9 := by omega
      have HE : Hid ((stJ es s).2.map (fun t : Nat => (t : Int)) = nrmE es) := by
        have := stJ_end hI
        rw [← HL.out] at this
        exact this
      have hl9 : (nrmE es).length = s := by rw [← HE.out, List.length_map, stJ_len]
      rw [HE.out] at q
      have q9 := own_lowerB (B' := w1.heap.size) q bw2.size
      have b9 := bel_trans bw2 b2
      clear pT q
      go_wp2
      go_ret
      exact ⟨⟨_, rfl, by rw [hl9]; exact q9⟩, b9⟩


set_option maxHeartbeats 2000000 in
set_option maxRecDepth 100000 in
theorem implNormalOf_is (a : Option Addr) (len cap : Nat) (rows : List (List I3)) (la : Option Addr) (n c : Nat) (ks : List Int) (w : World) (hC : Codes w a len cap rows) (hV : VmShape w) (hL : Ints .i64 w la n c ks) :
    Calls Tryd.prog 20 #[.agg #[.slice a len cap], .slice la n c] w fun e w' => LGot e w' w.heap.size (nrmE (evE rows ks)) (evK rows ks) ∧ Below w.heap.size w w' := by
  have hI := evE_three rows ks
  have hE := evE_len9 rows ks
  have kE := fun W (b : Below w.heap.size w W) => implEventsOf_is a len cap rows la n c ks W (hC.below b) (hV.below b) (hL.below b)
  have HN : Hid (evK rows ks ≠ 0 → nrmE (evE rows ks) = []) := fun h => by rw [evE_nil h]; rfl
  generalize evE rows ks = es at *
  generalize evK rows ks = cd at *
  have bw : Below w.heap.size w (w.alloc (.cells #[.slice a len cap] 25)) := by go_grown
  have pP : Blk (w.alloc (.cells #[.slice a len cap] 25)) w.heap.size 25 [.slice a len cap] := blkAt _ _ _ rfl
  clear hC hV hL
  go_enter Tryd.func20, Tryd.ntmps20
  go_wp2_with fail
  generalize (w.alloc (.cells #[.slice a len cap] 25)) = U at *
  go_wp2_with (first | refine wpList_load_blk rfl 25 _ rfl w.heap.size rfl pP _ Tryd.underlying25 rfl (by kernel_rfl) ?_)
  refine (kE _ bw).mono ?_
  rintro e w1 ⟨⟨v, rfl, q⟩, hb⟩
  replace bw := bel_trans bw hb
  clear kE pP hb
  by_cases hcd : cd = 0
  case neg =>
    have hne : (cd != 0) = true := by simp [hcd]
    have HE : Hid (nrmE es = []) := HN.out hcd
    clear q HN hcd
    go_wp2
    go_ret2
    rw [HE.out]
    exact ⟨⟨_, rfl, World.ownsRow_nil _ _ _ _⟩, bw⟩
  subst hcd
  clear HN
  obtain ⟨ea, ec, rfl, hEv⟩ := evs_slice q
  have hec : es.length ≤ ec := by
    rcases q.2 with ⟨h1, _⟩ | ⟨g9, cap9, cur9, h1, _, _, h2, _⟩
    · simp at h1; omega
    · simp at h1; omega
  clear q
  obtain ⟨n9, hn9⟩ : ∃ n9, n9 = es.length := ⟨_, rfl⟩
  rw [← hn9] at hEv hE hec ⊢
  have kN := normalOf_is ea n9 ec es w1 hEv hE hec hI hn9
  clear hn9 hEv hec
  go_wp2_with fail
  refine kN.mono ?_
  rintro e w2 ⟨⟨v, rfl, q⟩, hb⟩
  have q9 := own_lowerB (B' := w.heap.size) q bw.size
  replace bw := bel_trans bw hb
  clear kN q hb
  go_wp2
  go_ret2
  exact ⟨⟨_, rfl, q9⟩, bw⟩
end Go.Proofs.YtdojjmkpelgcaaaDoor

