/-
  Joined: SrtB, RunQ, RpG, EvC, EvD.
-/
import Derived.Test.YtdojjmkpelgcaaaGreatDoorProg
import Derived.Deep.RegionHeld3
import Derived.KernelRfl
import Derived.Tactics
import Derived.WalkKit
import Derived.WalkSpells
import Derived.WalkLawsBesides
import Derived.RegionTactic
import Derived.BigQuiet
import Derived.Deep.QuietTactic
import Derived.Deep.Slices
import Derived.Deep.Strs
import Derived.Deep.Fields
import Derived.ChangeSame
import Derived.Handy
import Derived.OwnWalk
import Derived.Shelf.Abstract
import Derived.Deep.RegionLaw
import Derived.Laws.OwnMore
import Derived.Maps.AppendAt
import Derived.Shelf.SlSortCmp.NoneTotal
import Derived.Shelf.Spec.SlicesGrow
import Derived.Laws.AppendOwnNone
import Derived.Lib.SliceRun
import Derived.ChangeSlices
import Derived.Lib.SmallJoins
import Derived.Laws.BytesArg
import Derived.Laws.CopyOwn
import Derived.Laws.Tables
import Derived.BigRegion
import Derived.Laws.RangeString
import Derived.Laws.RangeAny
import Derived.Laws.Bits
import Derived.Lib.FieldsP
import Derived.Stop.Asserts
import Derived.Recover
import Derived.Deep.MidRow
import Derived.Test.YtdojjmkpelgcaaaGreatDoorK01
import Derived.Test.YtdojjmkpelgcaaaGreatDoorK02
import Derived.Test.YtdojjmkpelgcaaaGreatDoorK04
import Derived.Test.YtdojjmkpelgcaaaGreatDoorK07
import Derived.Test.YtdojjmkpelgcaaaGreatDoorK08
import Derived.Test.YtdojjmkpelgcaaaGreatDoorK10
import Derived.Test.YtdojjmkpelgcaaaGreatDoorK11
import Derived.Test.YtdojjmkpelgcaaaGreatDoorK12
import Derived.Test.YtdojjmkpelgcaaaGreatDoorK13
import Derived.Test.YtdojjmkpelgcaaaGreatDoorK15
import Derived.Test.YtdojjmkpelgcaaaGreatDoorK17
import Derived.Test.YtdojjmkpelgcaaaGreatDoorK23
import Derived.Test.YtdojjmkpelgcaaaGreatDoorK24
import Derived.Test.YtdojjmkpelgcaaaGreatDoorK25
import Derived.Test.YtdojjmkpelgcaaaGreatDoorK26
import Derived.Test.YtdojjmkpelgcaaaGreatDoorK28
import Derived.Test.YtdojjmkpelgcaaaGreatDoorK30
import Derived.Test.YtdojjmkpelgcaaaGreatDoorK32
import Derived.Test.YtdojjmkpelgcaaaGreatDoorK34
import Derived.Test.YtdojjmkpelgcaaaGreatDoorK36
import Derived.Test.YtdojjmkpelgcaaaGreatDoorK37
import Derived.Test.YtdojjmkpelgcaaaGreatDoorK38
import Derived.Test.YtdojjmkpelgcaaaGreatDoorK39

/-
  The program's mergedBugs: concat, sort, compact: both lists merged; MergeBugs.
-/
namespace Go.Proofs.YtdojjmkpelgcaaaGreatDoor
open Go.RowKit Go.Sort Go.Shelf
set_option linter.unusedVariables false
set_option linter.unusedSimpArgs false

theorem flatK_flat (xs : List I3) : (flatK I3.cells 3 xs.toArray).toList = flat xs := by
  apply List.ext_getElem?
  intro t
  by_cases h : t < xs.length * 3
  · have hq : t / 3 < xs.length := by omega
    have hl : t < (flatK I3.cells 3 xs.toArray).toList.length := by simp; omega
    have e1 : (flatK I3.cells 3 xs.toArray).toList[t]? = some ((I3.cells xs.toArray[t / 3]!)[t % 3]!) := by
      rw [List.getElem?_eq_getElem hl, Array.getElem_toList, ← getElem!_pos (flatK I3.cells 3 xs.toArray) t (by simpa using h), get_flatK _ _ _ _ (by simpa using h)]
    rw [e1]
    obtain ⟨f0, f1, f2⟩ := flat_at hq
    have ex : xs.toArray[t / 3]! = xs.getD (t / 3) (0, 0, 0) := by
      rw [getElem!_pos _ _ (by simpa using hq)]
      simp [List.getD, List.getElem?_eq_getElem hq]
    rw [ex]
    generalize xs.getD (t / 3) (0, 0, 0) = x at *
    have hr : t % 3 = 0 ∨ t % 3 = 1 ∨ t % 3 = 2 := by omega
    rcases hr with hr | hr | hr
    · have e : t / 3 * 3 = t := by omega
      rw [e] at f0
      rw [f0, hr]
      rfl
    · have e : t / 3 * 3 + 1 = t := by omega
      rw [e] at f1
      rw [f1, hr]
      rfl
    · have e : t / 3 * 3 + 2 = t := by omega
      rw [e] at f2
      rw [f2, hr]
      rfl
  · rw [List.getElem?_eq_none (by simp; omega), List.getElem?_eq_none (by rw [flat_length]; omega)]
theorem holds_own {w : World} {B g n cap : Nat} {xs : List I3} (h : w.ownsRow B 64 3 (.slice (some ⟨g, 0, none⟩) n cap) n (flat xs)) (hl : xs.length = n) : HoldsK I3.cells 3 w g 0 xs.toArray := by
  intro t ht
  rw [size_flatK] at ht
  have ht' : t < n * 3 := by simpa [hl] using ht
  refine ⟨?_, by rw [Nat.zero_add]; exact h.frozenAt t⟩
  rw [Nat.zero_add, h.cellAt t ht', ← flatK_flat, getElem!_pos _ _ (by rw [size_flatK]; exact ht)]
  simp [ht]
theorem sort_owns {w : World} {B g n cap m : Nat} {xs ys : List I3} {os : Array Obj} (h : w.ownsRow B 64 3 (.slice (some ⟨g, 0, none⟩) n cap) n (flat xs)) (hx : xs.length = n) (hy : ys.length = n) :
    (sortWorldK I3.cells 3 w g 0 m ys.toArray os).ownsRow B 64 3 (.slice (some ⟨g, 0, none⟩) n cap) n (flat ys) ∧ w.grownBy (sortWorldK I3.cells 3 w g 0 m ys.toArray os) (some g) := by
  rcases h.2 with ⟨hv, _⟩ | ⟨g', cap', cur, hv, hB, hg, hn, hc, hsz, ht⟩
  · cases hv
  cases hv
  have hgl : g < w.heap.size := (Array.getElem?_eq_some_iff.1 hg).1
  refine ⟨⟨by rw [flat_length]; omega, .inr ⟨g, cap, putCells id 0 (flatK I3.cells 3 ys.toArray) cur, rfl, hB, ?_, hn, hc, ?_, ?_⟩⟩, ⟨rfl, rfl, rfl, ?_, ?_⟩⟩
  · show (((Sort.ahead w m).heap.modify g _) ++ os)[g]? = _
    rw [Array.getElem?_append_left (by simpa [Sort.ahead] using hgl), Array.getElem?_modify]
    simp [Sort.ahead, hg, onCells]
  · simpa [putCells] using hsz
  · have hfk := flatK_flat ys
    have hfs : (flatK I3.cells 3 ys.toArray).size = n * 3 := by simp [hy]
    apply List.ext_getElem?
    intro t
    by_cases h3 : t < n * 3
    · rw [List.getElem?_take_of_lt h3, ← hfk]
      have hcz : t < cur.size := by rw [hsz]; have := Nat.mul_le_mul_right 3 hn; omega
      simp only [putCells, Array.getElem?_toList, Array.getElem?_mapIdx, Array.getElem?_eq_getElem hcz, Option.map_some]
      rw [if_pos ⟨Nat.zero_le _, by omega⟩, getElem!_pos _ _ (by omega), Array.getElem?_eq_getElem (by omega)]
      simp
    · rw [List.getElem?_eq_none (by rw [List.length_take]; omega), List.getElem?_eq_none (by rw [flat_length]; omega)]
  · show w.heap.size ≤ (((Sort.ahead w m).heap.modify g _) ++ os).size
    simp [Sort.ahead]
  · intro k hk hne
    show (((Sort.ahead w m).heap.modify g _) ++ os)[k]? = _
    rw [Array.getElem?_append_left (by simpa [Sort.ahead] using hk), Array.getElem?_modify]
    have : g ≠ k := fun e => hne (by rw [e])
    simp [Sort.ahead, this]

def srtB (l : List I3) : List I3 := l.mergeSort fun x y => !(ltOf cmpB) y x
theorem srtB_len (l : List I3) : (srtB l).length = l.length := by unfold srtB; simp
theorem srtB_mem {l : List I3} {x : I3} : x ∈ srtB l ↔ x ∈ l := by unfold srtB; exact (List.mergeSort_perm l _).mem_iff
theorem srtB_pair (l : List I3) : (srtB l).Pairwise fun a b => ltB b a = false := by
  have h := List.pairwise_mergeSort (le := fun x y => !(ltOf cmpB) y x) (fun a b c h1 h2 => by
    simp only [Bool.not_eq_true', cmpB_lt] at *
    cases k : ltB c a
    · rfl
    · cases k2 : ltB c b
      · cases k3 : ltB b c
        · have := ltB_total k2 k3
          subst this
          rw [h1] at k
          cases k
        · have := ltB_trans k3 k
          rw [this] at h1
          cases h1
      · rw [k2] at h2
        cases h2) (fun a b => by
    simp only [cmpB_lt, Bool.or_eq_true, Bool.not_eq_true']
    cases k : ltB b a
    · exact .inl rfl
    · exact .inr (ltB_asymm k)) l
  exact h.imp fun {a b} h => by simpa [cmpB_lt] using h
theorem srtB_once (xs ys : List I3) : onceB (srtB (xs ++ ys)) = mergeB xs ys := once_merge (srtB_pair _) fun x => by rw [srtB_mem, List.mem_append]
theorem once_short : ∀ {l : List I3}, l.length < 2 → onceB l = l
  | [], _ => rfl
  | [x], _ => rfl
  | x :: y :: l, h => by simp at h; omega

theorem isAggB : ∀ w, (isAgg 64).run Tryz.prog w = .ok true w := Tryz.isAgg64
theorem sizeOfB : ∀ w, (Go.sizeOf 64).run Tryz.prog w = .ok 3 w := Tryz.sizeOf64
theorem compare_lays (blk off size : Nat) (w : World) : CmpLays Tryz.prog 130 #[] I3.cells 3 cmpB blk off size w := fun _ _ _ _ x y => compareBugs_is x y _
theorem sortFunc_is (B g n cap : Nat) (xs : List I3) (w : World) (h : w.ownsRow B 64 3 (.slice (some ⟨g, 0, none⟩) n cap) n (flat xs)) (hl : xs.length = n) (hn : n ≤ 1000000) :
    Calls Tryz.prog 129 #[.slice (some ⟨g, 0, none⟩) n cap, .func (.func 130) #[] #[]] w fun e w' => e = .returned (.tuple #[]) ∧ w'.ownsRow B 64 3 (.slice (some ⟨g, 0, none⟩) n cap) n (flat (srtB xs)) ∧ w.grownBy w' (some g) := by
  have eg : ∀ args w, (callFunc 130 args).run Tryz.prog w = .ok (.enter 130 args) w := enters_of Tryz.func130 (by kernel_rfl) rfl
  have k := AnyQ.slices_SortFunc_total sortBug 3 isAggB sizeOfB I3.cells (fun _ => rfl) (fun x v hv => by unfold I3.cells at hv; simp at hv; rcases hv with rfl | rfl | rfl <;> rfl) cmpB cmpB_swo 130 #[] g 0 cap xs.toArray w eg (compare_lays g 0 _ w) (holds_own h hl) ((h.lt g rfl).2) (by simp; omega) cmpB_total
  have e : xs.toArray.size = n := by simpa using hl
  rw [e] at k
  refine Calls.mono k ?_
  rintro e' w' ⟨rfl, m, os, rfl⟩
  exact ⟨rfl, sort_owns (ys := srtB xs) h hl (by rw [srtB_len]; exact hl)⟩
theorem sortFunc_none (a : Option Addr) (cap : Nat) (w : World) :
    Calls Tryz.prog 129 #[.slice a 0 cap, .func (.func 130) #[] #[]] w fun e w' => e = .returned (.tuple #[]) ∧ w = w' := by
  have k := AnyF.slices_SortFunc_none sortBug a cap (.func (.func 130) #[] #[]) w
  refine Calls.mono k ?_
  rintro e' w' ⟨rfl, rfl⟩
  exact ⟨rfl, rfl⟩

def GoodS (a : Option Addr) (c : Nat) : Prop := (a = none → c = 0) ∧ ∀ x, a = some x → x.spot = none
set_option maxHeartbeats 4000000 in
set_option maxRecDepth 100000 in
theorem mergedBugs_is (a0 : Option Addr) (n0 c0 : Nat) (xs : List I3) (a1 : Option Addr) (n1 c1 : Nat) (ys : List I3) (w : World) (h0 : Instrs w a0 n0 c0 xs) (h1 : Instrs w a1 n1 c1 ys) (m0 : n0 ≤ 400000) (m1 : n1 ≤ 400000) (z0 : GoodS a0 c0) (z1 : GoodS a1 c1) :
    Calls Tryz.prog 81 #[.slice a0 n0 c0, .slice a1 n1 c1] w fun e w' => BugsOne e w' w.heap.size (mergeB xs ys) ∧ Below w.heap.size w w' := by
  have l0 := h0.1
  have l1 := h1.1
  have bw : Below w.heap.size w (w.alloc (.cells #[.slice a0 n0 c0, .slice a1 n1 c1] 34)) := by go_grown
  have d0 : (w.alloc (.cells #[.slice a0 n0 c0, .slice a1 n1 c1] 34)).cell? ⟨w.heap.size, 0, none⟩ = some (.slice a0 n0 c0) := by simp [go_sem]
  have d1 : (w.alloc (.cells #[.slice a0 n0 c0, .slice a1 n1 c1] 34)).cell? ⟨w.heap.size, 1, none⟩ = some (.slice a1 n1 c1) := by simp [go_sem]
  go_enter Tryz.func81, Tryz.ntmps81
  go_wp2_with fail
  generalize w.alloc (.cells #[.slice a0 n0 c0, .slice a1 n1 c1] 34) = W at *
  refine (concat_is w.heap.size a0 n0 c0 xs a1 n1 c1 ys W (h0.below bw) (h1.below bw) m0 m1 z0.1 z1.1 z0.2 z1.2 d0 d1).mono ?_
  rintro e w1 ⟨⟨v, rfl, _, hq⟩, hb1⟩
  have hB : w.heap.size ≤ W.heap.size := bw.size
  replace bw := bel_trans bw hb1
  have hln : (xs ++ ys).length = n0 + n1 := by rw [List.length_append]; omega
  have HM : Hid (onceB (srtB (xs ++ ys)) = mergeB xs ys) := srtB_once xs ys
  clear d0 d1 h0 h1 z0 z1 hb1
  generalize xs ++ ys = zs at *
  by_cases hz : n0 + n1 = 0
  · obtain ⟨a, c, rfl⟩ : ∃ a c, v = .slice a 0 c := by
      rcases hq.2 with ⟨rfl, h9⟩ | ⟨g, cap, cur, hv, _⟩
      · exact ⟨_, _, rfl⟩
      · exact ⟨_, _, by rw [hv, hz]⟩
    have hzs : zs = [] := List.length_eq_zero_iff.1 (by omega)
    have HR : Hid (∀ e, e = .returned (.slice a 0 c) → BugsOne e w1 w.heap.size (mergeB xs ys)) := fun e he => by
      rw [← HM.out, hzs]
      refine ⟨_, he, ?_⟩
      have e9 : onceB (srtB []) = [] := by simp [srtB, onceB]
      rw [e9]
      rw [hz, hzs] at hq
      exact own_lowerB hq hB
    clear hq HM
    go_wp2_with fail
    refine (sortFunc_none a c _).mono ?_
    rintro e w2 ⟨rfl, rfl⟩
    go_wp2_with fail
    refine (compact_few a 0 c _ (by omega)).mono ?_
    rintro e w2 ⟨rfl, rfl⟩
    go_wp2
    go_ret
    exact ⟨HR.out _ rfl, bw⟩
  · obtain ⟨g, c, rfl⟩ := own_someB hq (by omega)
    have kS := sortFunc_is _ g (n0 + n1) c zs w1 hq hln (by omega)
    have hsl : (srtB zs).length = n0 + n1 := by rw [srtB_len]; exact hln
    have hnb : n0 + n1 ≤ 1000000 := by omega
    generalize n0 + n1 = n at *
    go_wp2_with fail
    refine kS.mono ?_
    rintro e w2 ⟨rfl, hq2, g2⟩
    have hg := (hq.lt g rfl).1
    replace bw := bw.grown g2 bw.size (fun k hk => by cases hk; omega)
    clear kS hq
    by_cases hn2 : n < 2
    · have HR : Hid (∀ e, e = .returned (.slice (some ⟨g, 0, none⟩) n c) → BugsOne e w2 w.heap.size (mergeB xs ys)) := fun e he => by
        rw [← HM.out, once_short (by omega)]
        exact ⟨_, he, by rw [hsl]; exact own_lowerB hq2 hB⟩
      clear hq2 HM g2
      go_wp2_with fail
      refine (compact_few _ n c _ (by omega)).mono ?_
      rintro e w3 ⟨rfl, rfl⟩
      go_wp2
      go_ret
      exact ⟨HR.out _ rfl, bw⟩
    · have kC := compact_is _ g n c (srtB zs) w2 hq2 hsl (by omega) (by omega)
      clear hq2 g2
      go_wp2_with fail
      refine kC.mono ?_
      rintro e w3 ⟨m, rfl, hq3, g3⟩
      clear kC
      have bw3 := bw.grown g3 bw.size (fun k hk => by cases hk; omega)
      have HR : Hid (∀ e, e = .returned (.slice (some ⟨g, 0, none⟩) m c) → BugsOne e w3 w.heap.size (mergeB xs ys)) := fun e he => by
        rw [← HM.out]
        exact ⟨_, he, own_lowerB hq3 hB⟩
      clear hq3 g3 HM bw
      go_wp2
      go_ret
      exact ⟨HR.out _ rfl, bw3⟩


end Go.Proofs.YtdojjmkpelgcaaaGreatDoor


/-
  Runs in plain words, more: what a run keeps are right bugs, and its states have their shape.
-/
namespace Go.Proofs.YtdojjmkpelgcaaaGreatDoor
open Go.RowKit
set_option linter.unusedVariables false

theorem step_codeQ (m : V4) (x : I3) (k : Nat) : (stepM m x k).2 = 0 ∨ (stepM m x k).2 = 12 ∨ (stepM m x k).2 = 13 := by
  unfold stepM
  repeat' split
  all_goals simp
theorem ownM_ok {rows : List (List I3)} {m : V4} {k : Int} (hp : progOk rows = true) (hs : shapeOk m = true) (hz : haltM rows m k = 0) : ∀ x ∈ ownM rows m k, okB x = true := by
  obtain ⟨h0, h2, hd, hc⟩ := halt_can hz
  obtain ⟨q, rfl⟩ : ∃ q : Nat, k = q := ⟨k.toNat, by omega⟩
  rw [Int.toNat_natCast] at hd
  have hq : q < 3 := by omega
  obtain ⟨p, ep, hlt, _, _⟩ := at_ins hp hs hq hd
  have hl6 := (codeM_len hp hq).1
  have hf := step_codeQ m (insM rows m q) q
  intro x hx
  unfold ownM goM at hx
  rw [Int.toNat_natCast] at hx
  split at hx
  · simp at hx
  · rename_i h9
    simp only [List.mem_singleton] at hx
    subst hx
    unfold okB
    simp only
    have h12 : (stepM m (insM rows m q) q).2 = 12 ∨ (stepM m (insM rows m q) q).2 = 13 := by omega
    rw [if_neg (by omega), if_pos h12, ep]
    rw [Bool.and_eq_true]
    exact ⟨inB_true.2 (by omega), inB_true.2 (by omega)⟩
theorem goM_shape {rows : List (List I3)} {m : V4} {k : Int} (hp : progOk rows = true) (hs : shapeOk m = true) (hz : haltM rows m k = 0) : shapeOk (goM rows m k).1 = true := by
  obtain ⟨h0, h2, hd, hc⟩ := halt_can hz
  exact shape_step hp hs (by omega) hd
theorem runI_ok {rows : List (List I3)} (hp : progOk rows = true) : ∀ (ks : List Int) (m : V4) (fs : List I3), shapeOk m = true → (∀ x ∈ fs, okB x = true) → shapeOk (runI rows m fs ks).1 = true ∧ ∀ x ∈ (runI rows m fs ks).2.1, okB x = true
  | [], m, fs, hs, hf => ⟨hs, hf⟩
  | k :: ks, m, fs, hs, hf => by
    by_cases hz : haltM rows m k = 0
    · have e2 : runI rows m fs (k :: ks) = runI rows (goM rows m k).1 (fs ++ ownM rows m k) ks := by
        show (if haltM rows m k = 0 then _ else _) = _
        rw [if_pos hz]
      rw [e2]
      exact runI_ok hp ks _ _ (goM_shape hp hs hz) fun x hx => (List.mem_append.1 hx).elim (hf x) (ownM_ok hp hs hz x)
    · have e2 : runI rows m fs (k :: ks) = (m, fs, haltM rows m k) := by
        show (if haltM rows m k = 0 then _ else _) = _
        rw [if_neg hz]
      rw [e2]
      exact ⟨hs, hf⟩
theorem okB_fitsQ {x : I3} (h : okB x = true) : I3.fits x := by
  unfold okB at h
  split at h
  · rename_i h1
    simp only [Bool.and_eq_true, decide_eq_true_eq] at h
    exact ⟨fits_small (by omega) (by omega), fits_small (by omega) (by omega), fits_small (by omega) (by omega)⟩
  · split at h
    · rename_i h1
      rw [Bool.and_eq_true] at h
      have a := inB_true.1 h.1
      have b := inB_true.1 h.2
      exact ⟨fits_small (by omega) (by omega), fits_small (by omega) (by omega), fits_small (by omega) (by omega)⟩
    · cases h
end Go.Proofs.YtdojjmkpelgcaaaGreatDoor


/-
  A new replay of a right program, and of another; a replay's bugs.
-/
namespace Go.Proofs.YtdojjmkpelgcaaaGreatDoor
open Go.RowKit
set_option linter.unusedVariables false
set_option linter.unusedSimpArgs false

theorem newReplay_ok {a : Option Addr} {len cap : Nat} {rows : List (List I3)} {w : World} {cs : Sl × Sl × Sl} (hC : Codes w a len cap rows) (hV : VmShape w) (hp : progOk rows = true) (hR : RowsAt w a cs rows) :
    Calls Tryz.prog 51 #[.agg #[.slice a len cap]] w fun e w' => e = .returned (.tuple #[.agg (Rp.machR (.slice none 0 0) cs.1.val cs.2.1.val cs.2.2.val zeroV).toArray, .int .i64 0]) ∧ Below w.heap.size w w' := by
  refine newReplay_of a len cap w 0 cs.1.1 cs.1.2.1 cs.1.2.2 cs.2.1.1 cs.2.1.2.1 cs.2.1.2.2 cs.2.2.1 cs.2.2.2.1 cs.2.2.2.2 0 0 0 0 0 0 0 0 0 0 0 0 0 0 0 fun W s bW hs => ?_
  refine (machineOf_ok a len cap rows s zeroV W (hC.below bW) hs (hV.below bW) hp zero_shape).mono ?_
  rintro e w' ⟨⟨cs', rfl, hR'⟩, hb⟩
  obtain rfl := hR'.uniq (hR.below bW)
  exact ⟨rfl, hb⟩
theorem newReplay_bad {a : Option Addr} {len cap : Nat} {rows : List (List I3)} {w : World} (hC : Codes w a len cap rows) (hV : VmShape w) (hp : progOk rows = false) :
    Calls Tryz.prog 51 #[.agg #[.slice a len cap]] w fun e w' => e = .returned (.tuple #[.agg #[.slice none 0 0, .int .i64 0, .int .i64 0, .int .i64 0, .slice none 0 0, .int .i64 0, .int .i64 0, .int .i64 0, .slice none 0 0, .int .i64 0, .int .i64 0, .int .i64 0, .int .i64 0, .int .i64 0, .int .i64 0, .int .i64 0, .int .i64 0, .int .i64 0, .slice none 0 0], .int .i64 1]) ∧ Below w.heap.size w w' := by
  refine newReplay_of a len cap w 1 none 0 0 none 0 0 none 0 0 0 0 0 0 0 0 0 0 0 0 0 0 0 0 0 fun W s bW hs => ?_
  exact machineOf_bad a len cap rows s zeroV W (hC.below bW) hs (hV.below bW) (by rw [hp]; rfl)

theorem bugs_sliceR {w : World} {B : Nat} {v : Value} {xs : List I3} (h : w.ownsRow B 64 3 v xs.length (flat xs)) (hf : ∀ x ∈ xs, I3.fits x) : ∃ a cap, v = .slice a xs.length cap ∧ Instrs w a xs.length cap xs ∧ GoodS a cap := by
  rcases h.2 with ⟨rfl, h0⟩ | ⟨g, cap, cur, hv, _⟩
  · exact ⟨none, 0, by rw [h0], ⟨rfl, by omega, by unfold maxLen; omega, hf, .inl h0⟩, fun _ => rfl, fun x hx => by cases hx⟩
  · subst hv
    exact ⟨_, _, rfl, Instrs.of_owns h rfl hf rfl, (fun h => by cases h), fun x hx => by cases hx; rfl⟩

set_option maxHeartbeats 2000000 in
set_option maxRecDepth 100000 in
theorem rbugs_is {fv : Value} {w : World} {g B : Nat} {cs : Sl × Sl × Sl} {rows : List (List I3)} {m : V4} {fs : List I3} (h : Rp.MachAt fv w g cs rows m) (hp : progOk rows = true) (hs : shapeOk m = true) (hF : w.ownsRow B 64 3 fv fs.length (flat fs)) (hfit : ∀ x ∈ fs, I3.fits x) (hn : fs.length ≤ 400000) :
    Calls Tryz.prog 57 #[.pointer (some ⟨g, 0, none⟩)] w fun e w' => BugsOne e w' w.heap.size (mergeB fs (deadM rows m)) ∧ Below w.heap.size w w' := by
  have kU := Rp.stuck_is g cs rows m w h hp hs
  have r1 := h.1.cell 18
  rw [Rp.machR_found] at r1
  obtain ⟨fa, fc, rfl, hI, hG⟩ := bugs_sliceR hF hfit
  obtain ⟨fin, hfin⟩ : ∃ fin, fin = mergeB fs (deadM rows m) := ⟨_, rfl⟩
  rw [← hfin]
  have HF : Hid (fin = mergeB fs (deadM rows m)) := hfin
  clear hfin hF
  unfold deadM at HF
  cases hst : stuckM rows m
  · rw [hst] at kU HF
    replace HF : Hid (fin = mergeB fs []) := HF
    clear hst h
    go_enter Tryz.func57, Tryz.ntmps57
    go_wp2_with fail
    refine kU.mono ?_
    rintro e w1 ⟨rfl, hb1⟩
    replace r1 := cells_kept hb1 _ _ r1
    have kM := mergedBugs_is fa fs.length fc fs none 0 0 [] w1 (hI.below hb1) ⟨rfl, by omega, by unfold maxLen; omega, by simp, .inl rfl⟩ hn (by omega) hG ⟨fun _ => rfl, fun x hx => by cases hx⟩
    rw [← HF.out] at kM
    clear kU HF hI hG
    go_wp2_with fail
    refine kM.mono ?_
    rintro e w2 ⟨⟨v, rfl, q⟩, hb2⟩
    have q2 := own_lowerB q hb1.size
    have bz := bel_trans hb1 hb2
    clear kM q hb1 hb2 r1
    go_wp2
    go_ret
    exact ⟨⟨_, rfl, q2⟩, bz⟩
  · rw [hst] at kU HF
    replace HF : Hid (fin = mergeB fs [(14, 0, 0)]) := HF
    clear hst h
    go_enter Tryz.func57, Tryz.ntmps57
    go_wp2_with fail
    refine kU.mono ?_
    rintro e w1 ⟨rfl, hb1⟩
    have ha : Below w1.heap.size w1 (w1.alloc (.cells #[.int .i64 14, .int .i64 0, .int .i64 0] 64)) := by go_grown
    have pD : Blk (w1.alloc (.cells #[.int .i64 14, .int .i64 0, .int .i64 0] 64)) w1.heap.size 64 [.int .i64 14, .int .i64 0, .int .i64 0] := blkAt _ _ _ rfl
    have bz := bel_trans hb1 ha
    have hsz : w1.heap.size < (w1.alloc (.cells #[.int .i64 14, .int .i64 0, .int .i64 0] 64)).heap.size := by simp
    have hD : Instrs (w1.alloc (.cells #[.int .i64 14, .int .i64 0, .int .i64 0] 64)) (some ⟨w1.heap.size, 0, none⟩) 1 1 [(14, 0, 0)] := ⟨rfl, by omega, by unfold maxLen; omega, fun x hx => by
      simp only [List.mem_singleton] at hx
      subst hx
      exact okB_fitsQ rfl, .inr ⟨_, _, rfl, hsz, fun t ht => by
      obtain rfl : t = 0 := by omega
      exact ⟨pD.cell 0, pD.cell 1, pD.cell 2⟩⟩⟩
    replace r1 := cells_kept bz _ _ r1
    have kM := mergedBugs_is fa fs.length fc fs (some ⟨w1.heap.size, 0, none⟩) 1 1 [(14, 0, 0)] (w1.alloc (.cells #[.int .i64 14, .int .i64 0, .int .i64 0] 64)) (hI.below bz) hD hn (by omega) hG ⟨(fun h => by cases h), fun x hx => by cases hx; rfl⟩
    rw [← HF.out] at kM
    clear kU HF hI hG hD pD ha hb1 hsz
    go_wp2_with fail
    refine kM.mono ?_
    rintro e w2 ⟨⟨v, rfl, q⟩, hb2⟩
    have q2 := own_lowerB q bz.size
    replace bz := bel_trans bz hb2
    clear kM q hb2 r1
    go_wp2
    go_ret
    exact ⟨⟨_, rfl, q2⟩, bz⟩
end Go.Proofs.YtdojjmkpelgcaaaGreatDoor


/-
  The program's EventsOf.
-/
namespace Go.Proofs.YtdojjmkpelgcaaaGreatDoor
open Go.RowKit
set_option linter.unusedVariables false
set_option linter.unusedSimpArgs false

def evsM (rows : List (List I3)) : V4 → List Int → List I4
  | _, [] => []
  | m, k :: ks => eventM rows m k.toNat :: evsM rows (goM rows m k).1 ks
def evE (rows : List (List I3)) (ks : List Int) : List I4 := if 4096 < ks.length then [] else if progOk rows then (if (runI rows zeroV [] ks).2.2 = 0 then evsM rows zeroV ks else []) else []
def evK (rows : List (List I3)) (ks : List Int) : Int := if 4096 < ks.length then 2 else if progOk rows then (runI rows zeroV [] ks).2.2 else 1
def EvGot (e : Ending) (w : World) (B : Nat) (es : List I4) (c : Int) : Prop := ∃ v, e = .returned (.tuple #[v, .int .i64 c]) ∧ w.ownsRow B 38 4 v es.length (flat4 es)
theorem info_event : (Tryz.prog.info? 38).map (fun i => (i.zero, i.size, i.bytes)) = some (some (.agg #[.int .i64 0, .int .i64 0, .int .i64 0, .int .i64 0]), 4, 32) := by kernel_rfl
theorem runI_one (rows : List (List I3)) (m : V4) (fs : List I3) (k : Int) : runI rows m fs [k] = if haltM rows m k = 0 then ((goM rows m k).1, fs ++ ownM rows m k, 0) else (m, fs, haltM rows m k) := by
  show (if haltM rows m k = 0 then _ else _) = _
  rfl
theorem machR_app (fv c0 c1 c2 : Value) (m : V4) : Rp.machR fv c0 c1 c2 m = machCells c0 c1 c2 m ++ [fv] := rfl
theorem Blk.rangeE {w : World} {g t : Nat} {cs xs : List Value} (h : Blk w g t (cs ++ xs)) : w.rangeAt g 0 cs := fun j v hj => by
  rw [Nat.zero_add, h.cell, List.getElem?_append_left (List.getElem?_eq_some_iff.1 hj).1]
  exact hj
theorem four_at {w : World} {G : Nat} {a b c d : Value} (h : Blk w G 38 [a, b, c, d]) : ∀ j u, [a, b, c, d][j]? = some u → w.cell? ((⟨G, 0, none⟩ : Addr).add j) = some u := by
  intro j u hj
  rw [Addr.add_mid, Nat.zero_add, h.cell]
  exact hj
theorem four_one (a b c d : Int) : ∀ u ∈ [Value.int .i64 a, Value.int .i64 b, Value.int .i64 c, Value.int .i64 d], u.oneCell' = true := by
  intro u hu
  simp at hu
  rcases hu with rfl | rfl | rfl | rfl <;> rfl
theorem ints_cellE {w : World} {a : Option Addr} {n c : Nat} {ks : List Int} (h : Ints .i64 w a n c ks) {i : Nat} (hi : i < n) : ∃ b off, a = some ⟨b, off, none⟩ ∧ w.cell? ⟨b, off + i, none⟩ = some (.int .i64 (ks.getD i 0)) ∧ b < w.heap.size := by
  obtain ⟨h1, h2, h3, h4⟩ := h
  rcases h4 with h4 | ⟨b, off, ha, hl, hc⟩
  · omega
  · exact ⟨b, off, ha, hc i hi, hl⟩
theorem ownM_lenE (rows : List (List I3)) (m : V4) (k : Int) : (ownM rows m k).length ≤ 1 := by unfold ownM; split <;> simp
def OnEv (w wr : World) (g : Nat) (cs : Sl × Sl × Sl) (rows : List (List I3)) (ks : List Int) (n i : Nat) (fin : V4 × List I3 × Int) (tot : List I4) (m : V4) (fs : List I3) (es : List I4) (v : Value) : Prop :=
  i ≤ n ∧ runI rows m fs (ks.drop i) = fin ∧ shapeOk m = true ∧ RanTo wr g w.heap.size cs m fs ∧ Below w.heap.size w wr ∧ wr.ownsRow w.heap.size 38 4 v es.length (flat4 es) ∧ es ++ evsM rows m (ks.drop i) = tot ∧ fs.length ≤ i ∧ es.length = i

set_option maxHeartbeats 800000 in
set_option maxRecDepth 100000 in
theorem implEventsOf_ok (a : Option Addr) (cap : Nat) (rows : List (List I3)) (la : Option Addr) (n c : Nat) (ks : List Int) (w : World) (hC : Codes w a 3 cap rows) (hV : VmShape w) (hp : progOk rows = true) (hL : Ints .i64 w la n c ks) (hn : ¬ 4096 < n) :
    Calls Tryz.prog 11 #[.agg #[.slice a 3 cap], .slice la n c] w fun e w' => EvGot e w' w.heap.size (if (runI rows zeroV [] ks).2.2 = 0 then evsM rows zeroV ks else []) (runI rows zeroV [] ks).2.2 ∧ Below w.heap.size w w' := by
  obtain ⟨i0, hi9, hz0, hz1, hz2⟩ := info_parts info_event
  have hn' : ¬ (4096 : Int) < (n : Int) := by omega
  have hll := hL.1
  obtain ⟨_, cs, hR⟩ := hC.rowsAt hp
  have kN := fun W (b : Below w.heap.size w W) => newReplay_ok (hC.below b) (hV.below b) hp (hR.below b)
  have HF0 : Hid (runI rows zeroV [] (ks.drop 0) = runI rows zeroV [] ks) := rfl
  have HT0 : Hid ([] ++ evsM rows zeroV (ks.drop 0) = evsM rows zeroV ks) := rfl
  obtain ⟨fin, hfin⟩ : ∃ fin, fin = runI rows zeroV [] ks := ⟨_, rfl⟩
  obtain ⟨tot, htot⟩ : ∃ tot, tot = evsM rows zeroV ks := ⟨_, rfl⟩
  rw [← hfin] at HF0 ⊢
  rw [← htot] at HT0 ⊢
  obtain ⟨es9, hes⟩ : ∃ es9, es9 = (if fin.2.2 = 0 then tot else []) := ⟨_, rfl⟩
  obtain ⟨cd9, hcd⟩ : ∃ cd9, cd9 = fin.2.2 := ⟨_, rfl⟩
  rw [← hes, ← hcd]
  have HE : Hid (es9 = (if fin.2.2 = 0 then tot else []) ∧ cd9 = fin.2.2) := ⟨hes, hcd⟩
  clear hfin htot hes hcd
  have bw : Below w.heap.size w (w.alloc (.cells #[.slice a 3 cap] 25)) := by go_grown
  have pP : Blk (w.alloc (.cells #[.slice a 3 cap] 25)) w.heap.size 25 [.slice a 3 cap] := blkAt _ _ _ rfl
  clear hC hV
  go_enter Tryz.func11, Tryz.ntmps11
  go_wp2_with fail
  generalize (w.alloc (.cells #[.slice a 3 cap] 25)) = U at *
  go_wp2_with (first | refine wpList_load_blk rfl 25 _ rfl w.heap.size rfl pP _ Tryz.underlying25 rfl (by kernel_rfl) ?_)
  refine (kN _ bw).mono ?_
  rintro e w1 ⟨rfl, hb⟩
  replace bw := bel_trans bw hb
  have pN := Blk.new w1 96 [.slice none 0 0, .int .i64 0, .int .i64 0, .int .i64 0, .slice none 0 0, .int .i64 0, .int .i64 0, .int .i64 0, .slice none 0 0, .int .i64 0, .int .i64 0, .int .i64 0, .int .i64 0, .int .i64 0, .int .i64 0, .int .i64 0, .int .i64 0, .int .i64 0, .slice none 0 0]
  have ha : Below w1.heap.size w1 (w1.alloc (.cells #[.slice none 0 0, .int .i64 0, .int .i64 0, .int .i64 0, .slice none 0 0, .int .i64 0, .int .i64 0, .int .i64 0, .slice none 0 0, .int .i64 0, .int .i64 0, .int .i64 0, .int .i64 0, .int .i64 0, .int .i64 0, .int .i64 0, .int .i64 0, .int .i64 0, .slice none 0 0] 96)) := by go_grown
  have hgw : w.heap.size ≤ w1.heap.size := bw.size
  clear kN hb pP
  go_wp2_with (refine wpList_store_blk rfl 96 _ _ rfl w1.heap.size (Rp.machR (.slice none 0 0) cs.1.val cs.2.1.val cs.2.2.val zeroV) rfl rfl pN (by kernel_rfl) rfl rfl ?_)
  intro W9 pM g1
  replace bw := (bel_trans bw ha).grown g1 (by simp; omega) (fun x hx => by cases hx; omega)
  have st : OnEv w W9 w1.heap.size cs rows ks n 0 fin tot zeroV [] [] (.slice none 0 0) := ⟨by omega, HF0.out, zero_shape, ⟨_, pM.out, World.ownsRow_nil _ _ _ _⟩, bw, World.ownsRow_nil _ _ _ _, HT0.out, by simp, rfl⟩
  clear g1 ha pN pM HF0 HT0 bw
  generalize w1.heap.size = g at *
  go_wp2_with fail
  go_loopw [8, 26] (fun so si wr => ∃ (i : Nat) (m : V4) (fs : List I3) (es : List I4) (vo : Value), vo = so ∧ si = .int .i64 i ∧ OnEv w wr g cs rows ks n i fin tot m fs es vo) (fun _ si _ => n - (intOf si).toNat)
  case atStart => exact ⟨0, _, _, _, _, rfl, rfl, st⟩
  case round =>
    clear st
    obtain ⟨i, m, fs, es, so, rfl, rfl, hi, hr, hs, ⟨fv, hM, hF⟩, bw, q, ht, hfl, hel⟩ := hrel
    by_cases hlt : i < n
    · obtain ⟨lb, lo, rfl, hc, hlb⟩ := ints_cellE hL hlt
      replace hc := cells_kept bw _ _ hc
      have e9 : ks.drop i = ks.getD i 0 :: ks.drop (i + 1) := by rw [List.drop_eq_getElem_cons (by omega)]; simp [List.getD, show i < ks.length by omega]
      have HR : Hid (runI rows m fs (ks.getD i 0 :: ks.drop (i + 1)) = fin) := by rw [Hid, ← e9]; exact hr
      have HT : Hid (es ++ (eventM rows m (ks.getD i 0).toNat :: evsM rows (goM rows m (ks.getD i 0)).1 (ks.drop (i + 1))) = tot) := by rw [e9] at ht; exact ht
      have hlt' : (i : Int) < (n : Int) := by omega
      have hi0 : (0 : Int) ≤ (i : Int) := by omega
      generalize ks.getD i 0 = kk at *
      clear hr ht e9
      have hgl := hM.lt
      have hrg := Blk.rangeE (machR_app fv cs.1.val cs.2.1.val cs.2.2.val m ▸ hM)
      have pN := Blk.new wr 94 [.slice none 0 0, .int .i64 0, .int .i64 0, .int .i64 0, .slice none 0 0, .int .i64 0, .int .i64 0, .int .i64 0, .slice none 0 0, .int .i64 0, .int .i64 0, .int .i64 0, .int .i64 0, .int .i64 0, .int .i64 0, .int .i64 0, .int .i64 0, .int .i64 0]
      have ha : Below wr.heap.size wr (wr.alloc (.cells #[.slice none 0 0, .int .i64 0, .int .i64 0, .int .i64 0, .slice none 0 0, .int .i64 0, .int .i64 0, .int .i64 0, .slice none 0 0, .int .i64 0, .int .i64 0, .int .i64 0, .int .i64 0, .int .i64 0, .int .i64 0, .int .i64 0, .int .i64 0, .int .i64 0] 94)) := by go_grown
      go_wp2_with (first | refine wpList_load_mid rfl 94 _ rfl g 0 rfl (machCells cs.1.val cs.2.1.val cs.2.2.val m) _ hrg Tryz.underlying94 rfl (by kernel_rfl) ?_ | refine wpList_store_blk rfl 94 _ _ rfl wr.heap.size (machCells cs.1.val cs.2.1.val cs.2.2.val m) rfl rfl pN (by kernel_rfl) rfl rfl ?_)
      intro W pW g1
      have ng : (some wr.heap.size : Option Nat) ≠ some g := by simp; omega
      have hF1 := (owns_below hF ha).kept g1 (.inr (own_ne_blkR (owns_below hF ha) pN (by decide)).symm)
      have q1 := (owns_below q ha).kept g1 (.inr (own_ne_blkR (owns_below q ha) pN (by decide)).symm)
      have hM1 := (hM.below ha).kept g1 ng
      have bw1 := (bel_trans bw ha).grown g1 (Nat.le_trans bw.size ha.size) (fun x hx => by cases hx; exact bw.size)
      have hWg : w.heap.size ≤ wr.heap.size := bw.size
      clear hrg pN ha g1 ng hM hF q bw hc
      have pW2 := pW.out
      clear pW
      generalize wr.heap.size = gw at *
      have ha : Below W.heap.size W (W.alloc (.cells #[.int .i64 kk] 3)) := by go_grown
      have pK : Blk (W.alloc (.cells #[.int .i64 kk] 3)) W.heap.size 3 [.int .i64 kk] := blkAt _ _ _ rfl
      have hLk : ListAt (W.alloc (.cells #[.int .i64 kk] 3)) w.heap.size (some ⟨W.heap.size, 0, none⟩) 1 1 [kk] := ⟨⟨rfl, by omega, by unfold maxLen; omega, .inr ⟨_, _, rfl, pK.lt, fun t ht9 => by
        obtain rfl : t = 0 := by omega
        simp⟩⟩, fun b o hb _ => by cases hb; exact .inr ⟨_, _, pK⟩⟩
      have kR := run_is (w0 := w) hR (bel_trans bw1 ha) hgw hp hs ⟨fv, hM1.below ha, owns_below hF1 ha⟩ hLk (by omega)
      rw [runI_one] at kR
      replace q1 := owns_below q1 ha
      replace pW2 := pW2.below ha
      clear ha pK hLk hM1 hF1 bw1
      by_cases hz : haltM rows m kk = 0
      · rw [if_pos hz] at kR
        simp only at kR
        obtain ⟨h0, h2, hd, hcn⟩ := halt_can hz
        have hs2 := goM_shape hp hs hz
        have hr2 : runI rows (goM rows m kk).1 (fs ++ ownM rows m kk) (ks.drop (i + 1)) = fin := by
          have := HR.out
          rw [show runI rows m fs (kk :: ks.drop (i + 1)) = runI rows (goM rows m kk).1 (fs ++ ownM rows m kk) (ks.drop (i + 1)) by show (if haltM rows m kk = 0 then _ else _) = _; rw [if_pos hz]] at this
          exact this
        obtain ⟨k, rfl⟩ : ∃ k : Nat, kk = k := ⟨kk.toNat, by omega⟩
        rw [Int.toNat_natCast] at hd
        have hk : k < 3 := by omega
        have ht2 := HT.out
        rw [Int.toNat_natCast] at ht2
        have hol := ownM_lenE rows m (k : Int)
        clear HR HT hz h0 h2 hcn
        go_wp2_with fail
        refine kR.mono ?_
        rintro e w3 ⟨rfl, hRan, bw3, kp⟩
        replace q1 := kp.owns q1 (by decide) (by decide)
        replace pW2 := kp.blk pW2 (by decide) (by decide)
        have kV := event_is ((hR.below bw3).mach pW2) hp hs hk hd
        obtain ⟨ev, hev⟩ : ∃ ev, ev = eventM rows m k := ⟨_, rfl⟩
        rw [← hev] at kV ht2
        obtain ⟨v0, v1, v2, v3⟩ := ev
        simp only at kV
        clear kR kp hd hev
        go_wp2_with fail
        refine kV.mono ?_
        rintro e w4 ⟨rfl, hb⟩
        have bw4 := bel_trans bw3 hb
        have hRan4 : RanTo w4 g w.heap.size cs (goM rows m k).1 (fs ++ ownM rows m k) := by obtain ⟨f9, h9, h8⟩ := hRan; exact ⟨f9, h9.below hb, owns_below h8 hb⟩
        replace q1 := owns_below q1 hb
        clear kV hb pW2 hRan bw3
        have ha : Below w4.heap.size w4 (w4.alloc (.cells #[.int .i64 v0, .int .i64 v1, .int .i64 v2, .int .i64 v3] 38)) := by go_grown
        have pV : Blk (w4.alloc (.cells #[.int .i64 v0, .int .i64 v1, .int .i64 v2, .int .i64 v3] 38)) w4.heap.size 38 [.int .i64 v0, .int .i64 v1, .int .i64 v2, .int .i64 v3] := blkAt _ _ _ rfl
        have hsz4 := bw4.size
        go_wp2_with (at_builtin; refine wpList_append_own _ rfl _ _ 29 rfl w.heap.size 38 i0 (.agg #[.int .i64 0, .int .i64 0, .int .i64 0, .int .i64 0]) 4 32 Tryz.underlying29 hi9 hz0 hz1 hz2 rfl (by decide) _ _ _ rfl (q1.alloc _) ⟨w4.heap.size, 0, none⟩ 1 1 [.int .i64 v0, .int .i64 v1, .int .i64 v2, .int .i64 v3] rfl rfl (four_at pV) (four_one _ _ _ _) ?c3 ?c4 ?c5 ?_)
        case c3 => unfold maxLen; omega
        case c4 => omega
        case c5 => simp; omega
        intro v9 wn q9 g9 _
        have R : wn.ownsRow w.heap.size 38 4 v9 (es ++ [(v0, v1, v2, v3)]).length (flat4 (es ++ [(v0, v1, v2, v3)])) := by
          rw [List.length_append, flat4_snoc, hel]
          exact q9
        have bn := (bel_trans bw4 ha).grown g9 (Nat.le_trans hsz4 ha.size) (fun k hk => (q1.lt k hk).1)
        have hRn : RanTo wn g w.heap.size cs (goM rows m k).1 (fs ++ ownM rows m k) := by
          obtain ⟨f9, h9, h8⟩ := hRan4
          have q1a := owns_below q1 ha
          exact ⟨f9, (h9.below ha).kept g9 (own_ne_blkR q1a (h9.below ha) (by decide)).symm, (owns_below h8 ha).kept g9 (owns_ne (owns_below h8 ha) q1a (by decide))⟩
        have st2 : OnEv w wn g cs rows ks n (i + 1) fin tot (goM rows m k).1 (fs ++ ownM rows m k) (es ++ [(v0, v1, v2, v3)]) v9 := ⟨by omega, hr2, hs2, hRn, bn, R, by rw [List.append_assoc]; exact ht2, by rw [List.length_append]; omega, by rw [List.length_append]; simp; omega⟩
        clear R bn hRn q9 g9 q1 ha pV hRan4 bw4 hr2 hs2 ht2 hs
        go_wp2
        go_roundw
        case rel => exact ⟨i + 1, _, _, _, _, rfl, by go_num, st2⟩
        case measure => simp [intOf]; omega
      · rw [if_neg hz] at kR
        simp only at kR
        have hfe : fin = (m, fs, haltM rows m kk) := by
          rw [← HR.out]
          show (if haltM rows m kk = 0 then _ else _) = _
          rw [if_neg hz]
        have hne : (haltM rows m kk != 0) = true := by simp [hz]
        have HZ : Hid (es9 = [] ∧ cd9 = haltM rows m kk) := by
          obtain ⟨h8, h9⟩ := HE.out
          rw [hfe] at h8 h9
          exact ⟨h8.trans (if_neg hz), h9⟩
        clear HR HT hz hfe HE
        go_wp2_with fail
        refine kR.mono ?_
        rintro e w3 ⟨rfl, hRan, bw3, kp⟩
        clear kR kp hRan q1 pW2
        go_wp2
        go_ret2
        rw [HZ.out.1, HZ.out.2]
        exact ⟨⟨_, rfl, World.ownsRow_nil _ _ _ _⟩, bw3⟩
    · obtain rfl : i = n := by omega
      have hfe : fin = (m, fs, 0) := by rw [← hr, List.drop_of_length_le (by omega)]; rfl
      have hte : es = tot := by rw [← ht, List.drop_of_length_le (by omega)]; simp [evsM]
      have HZ : Hid (es9 = es ∧ cd9 = 0) := by
        obtain ⟨h8, h9⟩ := HE.out
        rw [hfe] at h8 h9
        exact ⟨h8.trans ((if_pos rfl).trans hte.symm), h9⟩
      clear hr ht hfe hte HE
      go_wp2
      go_ret2
      rw [HZ.out.1, HZ.out.2]
      exact ⟨⟨_, rfl, q⟩, bw⟩
end Go.Proofs.YtdojjmkpelgcaaaGreatDoor


/-
  The specification's l05Event.
-/
namespace Go.Proofs.YtdojjmkpelgcaaaGreatDoor
open Go.RowKit
set_option linter.unusedVariables false
set_option linter.unusedSimpArgs false

set_option maxHeartbeats 1600000 in
set_option maxRecDepth 100000 in
theorem l05Event_raw (b9 off9 cap b0 o0 c0 : Nat) (a1 : Option Addr) (n1 c1 : Nat) (a2 : Option Addr) (n2 c2 : Nat) (a3 : Option Addr) (n3 c3 : Nat) (k p b off n c : Nat) (x0 x1 x2 : Int) (w : World) (hk : k < 3) (hp : p < n) (hx : -1000 ≤ x1 ∧ x1 ≤ 1000)
    (f0 : w.cell? ⟨b9, off9 + k, none⟩ = some (.slice (some ⟨b, off, none⟩) n c)) (e1 : w.cell? ⟨b0, o0 + k, none⟩ = some (.int .i64 p)) (q0 : w.cell? ⟨b, off + p * 3, none⟩ = some (.int .i64 x0)) (q1 : w.cell? ⟨b, off + p * 3 + 1, none⟩ = some (.int .i64 x1)) (q2 : w.cell? ⟨b, off + p * 3 + 2, none⟩ = some (.int .i64 x2)) :
    Calls Tryz.prog 110 #[.agg #[.slice (some ⟨b9, off9, none⟩) 3 cap], .agg #[.slice (some ⟨b0, o0, none⟩) 3 c0, .slice a1 n1 c1, .slice a2 n2 c2, .slice a3 n3 c3], .int .i64 k] w fun e w' => e = .returned (.agg #[.int .i64 k, .int .i64 p, .int .i64 x0, .int .i64 (objM (x0, x1, x2))]) ∧ Below w.heap.size w w' := by
  have hk3 : (k : Int) < 3 := by omega
  have hpn : (p : Int) < (n : Int) := by omega
  have kO := l05Obj_is x0 x1 x2 hx
  generalize objM (x0, x1, x2) = ob at *
  have hl0 : b0 < w.heap.size := World.block_lt_of_cell? _ _ e1
  have bw : Below w.heap.size w (((w.alloc (.cells #[.slice (some ⟨b9, off9, none⟩) 3 cap] 25)).alloc (.cells #[.slice (some ⟨b0, o0, none⟩) 3 c0, .slice a1 n1 c1, .slice a2 n2 c2, .slice a3 n3 c3] 33)).alloc (.cells #[.int .i64 0, .int .i64 0, .int .i64 0, .int .i64 0] 38)) := by go_grown
  have pP : Blk (((w.alloc (.cells #[.slice (some ⟨b9, off9, none⟩) 3 cap] 25)).alloc (.cells #[.slice (some ⟨b0, o0, none⟩) 3 c0, .slice a1 n1 c1, .slice a2 n2 c2, .slice a3 n3 c3] 33)).alloc (.cells #[.int .i64 0, .int .i64 0, .int .i64 0, .int .i64 0] 38)) w.heap.size 25 [.slice (some ⟨b9, off9, none⟩) 3 cap] := blkOld _ (blkOld _ (blkAt _ _ _ rfl))
  have pS : Blk (((w.alloc (.cells #[.slice (some ⟨b9, off9, none⟩) 3 cap] 25)).alloc (.cells #[.slice (some ⟨b0, o0, none⟩) 3 c0, .slice a1 n1 c1, .slice a2 n2 c2, .slice a3 n3 c3] 33)).alloc (.cells #[.int .i64 0, .int .i64 0, .int .i64 0, .int .i64 0] 38)) (w.heap.size + 1) 33 [.slice (some ⟨b0, o0, none⟩) 3 c0, .slice a1 n1 c1, .slice a2 n2 c2, .slice a3 n3 c3] := blkOld _ (blkAt _ _ _ (by simp))
  have pR : Blk (((w.alloc (.cells #[.slice (some ⟨b9, off9, none⟩) 3 cap] 25)).alloc (.cells #[.slice (some ⟨b0, o0, none⟩) 3 c0, .slice a1 n1 c1, .slice a2 n2 c2, .slice a3 n3 c3] 33)).alloc (.cells #[.int .i64 0, .int .i64 0, .int .i64 0, .int .i64 0] 38)) (w.heap.size + 2) 38 [.int .i64 0, .int .i64 0, .int .i64 0, .int .i64 0] := blkAt _ _ _ (by simp)
  replace f0 := cells_kept bw _ _ f0
  replace e1 := cells_kept bw _ _ e1
  replace q0 := cells_kept bw _ _ q0
  replace q1 := cells_kept bw _ _ q1
  replace q2 := cells_kept bw _ _ q2
  have cP := pP.cell 0
  have cS := pS.cell 0
  simp only [List.getElem?_cons_zero] at cP cS
  go_enter Tryz.func110, Tryz.ntmps110
  go_wp2_with fail
  have hX9 : w.heap.size + 2 < (((w.alloc (.cells #[.slice (some ⟨b9, off9, none⟩) 3 cap] 25)).alloc (.cells #[.slice (some ⟨b0, o0, none⟩) 3 c0, .slice a1 n1 c1, .slice a2 n2 c2, .slice a3 n3 c3] 33)).alloc (.cells #[.int .i64 0, .int .i64 0, .int .i64 0, .int .i64 0] 38)).heap.size := pR.lt
  generalize (((w.alloc (.cells #[.slice (some ⟨b9, off9, none⟩) 3 cap] 25)).alloc (.cells #[.slice (some ⟨b0, o0, none⟩) 3 c0, .slice a1 n1 c1, .slice a2 n2 c2, .slice a3 n3 c3] 33)).alloc (.cells #[.int .i64 0, .int .i64 0, .int .i64 0, .int .i64 0] 38)) = W at *
  refine wp_region_held_drew (S := (fun w' => w'.cell? ⟨w.heap.size, 0, none⟩ = some (.slice (some ⟨b9, off9, none⟩) 3 cap) ∧ w'.cell? ⟨b9, off9 + k, none⟩ = some (.slice (some ⟨b, off, none⟩) n c) ∧ w'.cell? ⟨w.heap.size + 1, 0, none⟩ = some (.slice (some ⟨b0, o0, none⟩) 3 c0) ∧ w'.cell? ⟨b0, o0 + k, none⟩ = some (.int .i64 p) ∧ w'.cell? ⟨b, off + p * 3, none⟩ = some (.int .i64 x0) ∧ w'.cell? ⟨b, off + p * 3 + 1, none⟩ = some (.int .i64 x1) ∧ w'.cell? ⟨b, off + p * 3 + 2, none⟩ = some (.int .i64 x2))) (by kernel_rfl) ⟨cP, f0, cS, e1, q0, q1, q2⟩ (fun hS0 => ?_)
  refine tkm 0 8 (.pointer (some ⟨w.heap.size, 0, none⟩)) ?_
  refine tkm 1 9 (.slice (some ⟨b9, off9, none⟩) 3 cap) ?_
  refine tkm 2 10 (.int .i64 (k : Int)) ?_
  refine tkm 3 11 (.pointer (some ⟨b9, off9 + k, none⟩)) ?_
  refine tkm 4 12 (.slice (some ⟨b, off, none⟩) n c) ?_
  refine tkm 5 13 (.pointer (some ⟨w.heap.size + 1, 0, none⟩)) ?_
  refine tkm 6 14 (.slice (some ⟨b0, o0, none⟩) 3 c0) ?_
  refine tkm 7 15 (.int .i64 (k : Int)) ?_
  refine tkm 8 16 (.pointer (some ⟨b0, o0 + k, none⟩)) ?_
  refine tkm 9 17 (.int .i64 p) ?_
  refine tkm 10 18 (.pointer (some ⟨b, off + p * 3, none⟩)) ?_
  refine tkm 11 19 (.agg #[.int .i64 x0, .int .i64 x1, .int .i64 x2]) ?_
  refine tkr 12 7 (fun K hK => ?_)
  have hal : Below W.drew.heap.size W.drew (W.drew.alloc (.cells #[.int .i64 0, .int .i64 0, .int .i64 0] 158)) := by go_grown
  go_simp
  refine hK.out _ _ ?_ (fun hS1 => ?_)
  · exact ⟨cells_kept hal _ _ hS0.1, cells_kept hal _ _ hS0.2.1, cells_kept hal _ _ hS0.2.2.1, cells_kept hal _ _ hS0.2.2.2.1, cells_kept hal _ _ hS0.2.2.2.2.1, cells_kept hal _ _ hS0.2.2.2.2.2.1, cells_kept hal _ _ hS0.2.2.2.2.2.2⟩
  clear hK
  try simp only [Act.put, tka, tkb, tkc]
  refine tkz 13 (fun K hK => ?_)
  have hal2 : Below W.drew.heap.size W.drew (W.drew.alloc (.cells #[.int .i64 x0, .int .i64 x1, .int .i64 x2] 158)) := by go_grown
  go_simp
  refine hK.out _ _ ?_ (fun hS2 => ?_)
  · exact ⟨cells_kept hal2 _ _ hS0.1, cells_kept hal2 _ _ hS0.2.1, cells_kept hal2 _ _ hS0.2.2.1, cells_kept hal2 _ _ hS0.2.2.2.1, cells_kept hal2 _ _ hS0.2.2.2.2.1, cells_kept hal2 _ _ hS0.2.2.2.2.2.1, cells_kept hal2 _ _ hS0.2.2.2.2.2.2⟩
  clear hK
  try simp only [Act.put, tka, tkb, tkc]
  refine wpAnyH_done (by kernel_rfl) ?_ _
  have hb : Below W.heap.size W (W.alloc (.cells #[.int .i64 x0, .int .i64 x1, .int .i64 x2] 158)).drew := by go_grown
  have pX : Blk (W.alloc (.cells #[.int .i64 x0, .int .i64 x1, .int .i64 x2] 158)).drew W.heap.size 158 [.int .i64 x0, .int .i64 x1, .int .i64 x2] := blkAt _ _ _ rfl
  replace bw := bel_trans bw hb
  replace pR := pR.below hb
  replace e1 := cells_kept hb _ _ e1
  replace cS := cells_kept hb _ _ cS
  clear hal hal2 hS0 hS1 hS2 f0 q0 q1 q2 hb cP pP pS
  go_wp2_with fail
  generalize (W.alloc (.cells #[.int .i64 x0, .int .i64 x1, .int .i64 x2] 158)).drew = V at *
  generalize W.heap.size = X at *
  have d0 := pX.cell 0
  have d1 := pX.cell 1
  have d2 := pX.cell 2
  simp only [List.getElem?_cons_zero, List.getElem?_cons_succ] at d0 d1 d2
  have hdr : Below V.heap.size V V.drew := by go_grown
  refine wp_region_held_drew (S := (fun w' => w'.cell? ⟨w.heap.size + 1, 0, none⟩ = some (.slice (some ⟨b0, o0, none⟩) 3 c0) ∧ w'.cell? ⟨b0, o0 + k, none⟩ = some (.int .i64 p) ∧ w'.cell? ⟨X, 0, none⟩ = some (.int .i64 x0) ∧ w'.cell? ⟨X, 1, none⟩ = some (.int .i64 x1) ∧ w'.cell? ⟨X, 2, none⟩ = some (.int .i64 x2))) (by kernel_rfl) ⟨cS, e1, d0, d1, d2⟩ (fun hS0 => ?_)
  refine tkm 0 20 (.int .i64 (k : Int)) ?_
  refine tkm 1 21 (.pointer (some ⟨w.heap.size + 1, 0, none⟩)) ?_
  refine tkm 2 22 (.slice (some ⟨b0, o0, none⟩) 3 c0) ?_
  refine tkm 3 23 (.int .i64 (k : Int)) ?_
  refine tkm 4 24 (.pointer (some ⟨b0, o0 + k, none⟩)) ?_
  refine tkm 5 25 (.int .i64 p) ?_
  refine tkm 6 26 (.pointer (some ⟨X, 0, none⟩)) ?_
  refine tkm 7 27 (.int .i64 x0) ?_
  refine tkm 8 28 (.agg #[.int .i64 x0, .int .i64 x1, .int .i64 x2]) ?_
  refine tkr 9 29 (fun K hK => ?_)
  go_simp
  refine (kO _).mono ?_
  rintro e U ⟨rfl, hb8⟩
  go_wp2_with fail
  refine hK.out _ _ ?_ (fun hS1 => ?_)
  · exact ⟨cells_kept hb8 _ _ hS0.1, cells_kept hb8 _ _ hS0.2.1, cells_kept hb8 _ _ hS0.2.2.1, cells_kept hb8 _ _ hS0.2.2.2.1, cells_kept hb8 _ _ hS0.2.2.2.2⟩
  clear hK
  refine tkm 10 30 (.agg #[.int .i64 (k : Int), .int .i64 p, .int .i64 x0, .int .i64 ob]) ?_
  replace pR := pR.below (bel_trans hdr hb8)
  replace bw := bel_trans bw (bel_trans hdr hb8)
  refine tkz 11 (fun K hK => ?_)
  refine step_store_blkD rfl 38 _ _ rfl (w.heap.size + 2) [.int .i64 (k : Int), .int .i64 p, .int .i64 x0, .int .i64 ob] rfl rfl pR (by kernel_rfl) rfl rfl ?_
  intro U2 pR2 g2
  have bz := bw.grown g2 bw.size (fun j hj => by cases hj; omega)
  have n0 : (some (w.heap.size + 1) : Option Nat) ≠ some (w.heap.size + 2) := by simp
  have n1 : (some b0 : Option Nat) ≠ some (w.heap.size + 2) := by simp; omega
  have n2 : (some X : Option Nat) ≠ some (w.heap.size + 2) := by simp; omega
  refine hK.out _ _ ⟨cell_grownB g2 hS1.1 n0, cell_grownB g2 hS1.2.1 n1, cell_grownB g2 hS1.2.2.1 n2, cell_grownB g2 hS1.2.2.2.1 n2, cell_grownB g2 hS1.2.2.2.2 n2⟩ (fun hS2 => ?_)
  clear hK
  try simp only [Act.put, tka, tkb, tkc]
  refine wpAnyH_done (by kernel_rfl) ?_ _
  clear hS0 hS1 hS2 n0 n1 n2 g2 bw pR hdr hb8 kO d0 d1 d2 e1 pX cS
  go_wp2_with fail
  refine bodyPost_ret (results_blk1 Tryz.results110 _ _ _ _ _ _ rfl pR2.out Tryz.underlying38 rfl (by kernel_rfl)) rfl ?_
  exact ⟨rfl, bz⟩

theorem l05Event_is {w : World} {a9 : Option Addr} {cap : Nat} {cs : Sl × Sl × Sl} {rows : List (List I3)} {s : S4} {m : V4} (hR : RowsAt w a9 cs rows) (h : Vmem w s m) (hp : progOk rows = true) (hs : shapeOk m = true) {k : Nat} (hk : k < 3) (hd : doneM rows m k = false) :
    Calls Tryz.prog 110 #[.agg #[.slice a9 3 cap], s.val, .int .i64 k] w fun e w' => e = .returned (.agg #[.int .i64 (eventM rows m k).1, .int .i64 (eventM rows m k).2.1, .int .i64 (eventM rows m k).2.2.1, .int .i64 (eventM rows m k).2.2.2]) ∧ Below w.heap.size w w' := by
  obtain ⟨p, ep, hlt, hi, hok⟩ := at_ins hp hs hk hd
  obtain ⟨b9, off9, rfl, _, hrow⟩ := hR
  obtain ⟨f0, hI⟩ := hrow k hk
  obtain ⟨b, off, ea, hpn, q0, q1, q2⟩ := ins_at hI hlt
  rw [← hi] at q0 q1 q2
  rw [ea] at f0
  have hm := okI_mid hok
  obtain ⟨⟨j0, _⟩, _⟩ := h
  obtain ⟨l0, _⟩ := shape_parts hs
  obtain ⟨⟨a0, n0, c0⟩, ⟨a1, n1, c1⟩, ⟨a2, n2, c2⟩, ⟨a3, n3, c3⟩⟩ := s
  simp only at j0
  obtain ⟨rfl, b0, o0, rfl⟩ := some_of_ints j0 l0 (by decide)
  have r1 := ints_at9 j0 (t := k) hk
  rw [ep] at r1
  unfold eventM
  rw [ep]
  generalize insM rows m k = x at *
  obtain ⟨x0, x1, x2⟩ := x
  exact l05Event_raw b9 off9 cap b0 o0 c0 a1 n1 c1 a2 n2 c2 a3 n3 c3 k p b off _ _ x0 x1 x2 w hk hpn hm f0 r1 q0 q1 q2
end Go.Proofs.YtdojjmkpelgcaaaGreatDoor

