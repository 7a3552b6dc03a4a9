/-
  Joined: WitA.
-/
import Derived.Test.YtmhngodbnoonhaaDoorProg
import Derived.Deep.RegionHeld3
import Derived.KernelRfl
import Derived.Tactics
import Derived.WalkKit
import Derived.WalkSpells
import Derived.WalkLawsBesides
import Derived.RegionTactic
import Derived.BigQuiet
import Derived.Deep.QuietTactic
import Derived.Deep.Slices
import Derived.Deep.Strs
import Derived.Deep.Fields
import Derived.ChangeSame
import Derived.Handy
import Derived.OwnWalk
import Derived.ChangeSlices
import Derived.Lib.SmallJoins
import Derived.Shelf.Abstract
import Derived.Laws.BytesArg
import Derived.Deep.RegionLaw
import Derived.Laws.OwnMore
import Derived.Laws.CopyOwn
import Derived.Laws.Tables
import Derived.BigRegion
import Derived.Maps.AppendAt
import Derived.Stop.Asserts
import Derived.Recover
import Derived.Laws.RangeString
import Derived.Laws.RangeAny
import Derived.Laws.Bits
import Derived.Lib.FieldsP
import Derived.Shelf.SlSortCmp.NoneTotal
import Derived.Shelf.Spec.SlicesGrow
import Derived.Laws.AppendOwnNone
import Derived.Lib.SliceRun
import Derived.Test.YtmhngodbnoonhaaDoorK01
import Derived.Test.YtmhngodbnoonhaaDoorK03
import Derived.Test.YtmhngodbnoonhaaDoorK04
import Derived.Test.YtmhngodbnoonhaaDoorK05
import Derived.Test.YtmhngodbnoonhaaDoorK10
import Derived.Test.YtmhngodbnoonhaaDoorK11
import Derived.Test.YtmhngodbnoonhaaDoorK13
import Derived.Test.YtmhngodbnoonhaaDoorK15
import Derived.Test.YtmhngodbnoonhaaDoorK16
import Derived.Test.YtmhngodbnoonhaaDoorK18
import Derived.Test.YtmhngodbnoonhaaDoorK28
import Derived.Test.YtmhngodbnoonhaaDoorK38

/-
  slices.Contains at bugs.
-/
namespace Go.Proofs.YtmhngodbnoonhaaDoor
open Go.RowKit
set_option linter.unusedVariables false
set_option linter.unusedSimpArgs false

def hasW : List I3 → I3 → Bool
  | [], _ => false
  | y :: l, x => decide (y = x) || hasW l x
theorem hasW_step {xs : List I3} {k : Nat} (hk : k < xs.length) (y : I3) : hasW (xs.drop k) y = (decide (xs.getD k (0, 0, 0) = y) || hasW (xs.drop (k + 1)) y) := by
  rw [List.drop_eq_getElem_cons hk]
  simp [hasW, List.getD, List.getElem?_eq_getElem hk]
theorem below_dNW {w W : World} (h : Below w.heap.size w W) (d : Nat) : Below w.heap.size w (W.drewN d) := bel_trans h (below_dN d)
def IdxW (e : Ending) (b : Bool) : Prop := ∃ r : Int, e = .returned (.int .i64 r) ∧ decide (0 ≤ r) = b

set_option maxHeartbeats 2000000 in
set_option maxRecDepth 100000 in
theorem index_is (a : Option Addr) (n cap : Nat) (xs : List I3) (y : I3) (w : World) (h : Instrs w a n cap xs) (hn : n ≤ 1000000) :
    Calls Tryd.prog 106 #[.slice a n cap, y.val] w fun e w' => IdxW e (hasW xs y) ∧ Below w.heap.size w w' := by
  have hl := h.1
  obtain ⟨r, hr⟩ : ∃ r, r = hasW xs y := ⟨_, rfl⟩
  rw [← hr]
  have HR : Hid (r = hasW (xs.drop 0) y) := by rw [Hid]; simpa using hr
  clear hr
  obtain ⟨y0, y1, y2⟩ := y
  unfold I3.val
  simp only
  have bw0 : Below w.heap.size w (w.alloc (.cells #[.int .i64 y0, .int .i64 y1, .int .i64 y2] 40)) := by go_grown
  have c0 : (w.alloc (.cells #[.int .i64 y0, .int .i64 y1, .int .i64 y2] 40)).cell? ⟨w.heap.size, 0, none⟩ = some (.int .i64 y0) := by simp [go_sem]
  have c1 : (w.alloc (.cells #[.int .i64 y0, .int .i64 y1, .int .i64 y2] 40)).cell? ⟨w.heap.size, 1, none⟩ = some (.int .i64 y1) := by simp [go_sem]
  have c2 : (w.alloc (.cells #[.int .i64 y0, .int .i64 y1, .int .i64 y2] 40)).cell? ⟨w.heap.size, 2, none⟩ = some (.int .i64 y2) := by simp [go_sem]
  go_enter Tryd.func106, Tryd.ntmps106
  go_wp2_with fail
  generalize (w.alloc (.cells #[.int .i64 y0, .int .i64 y1, .int .i64 y2] 40)) = W0 at *
  go_loopw [8] (fun si wr => ∃ k : Nat, k ≤ n ∧ si = .int .i64 k ∧ Hid (r = hasW (xs.drop k) (y0, y1, y2)) ∧ Below w.heap.size w wr ∧ wr.cell? ⟨w.heap.size, 0, none⟩ = some (.int .i64 y0) ∧ wr.cell? ⟨w.heap.size, 1, none⟩ = some (.int .i64 y1) ∧ wr.cell? ⟨w.heap.size, 2, none⟩ = some (.int .i64 y2)) (fun si _ => n - (intOf si).toNat)
  case atStart => exact ⟨0, by omega, rfl, HR, bw0, c0, c1, c2⟩
  case round =>
    clear HR bw0 c0 c1 c2
    obtain ⟨k, hk, rfl, HR, bw, c0, c1, c2⟩ := hrel
    by_cases hlt : k < n
    · obtain ⟨_, _, _, _, hcase⟩ := h.below bw
      rcases hcase with e0 | ⟨b, off, rfl, hb, hc⟩
      · omega
      obtain ⟨d0, d1, d2⟩ := hc k hlt
      clear hc hb
      have hst := hasW_step (xs := xs) (k := k) (by omega) (y0, y1, y2)
      generalize xs.getD k (0, 0, 0) = x at d0 d1 d2 hst
      have HS : Hid (hasW (xs.drop k) (y0, y1, y2) = (decide (x = (y0, y1, y2)) || hasW (xs.drop (k + 1)) (y0, y1, y2))) := hst
      clear hst
      have hlt' : (k : Int) < (n : Int) := by omega
      have hk0 : (0 : Int) ≤ (k : Int) := by omega
      obtain ⟨x0, x1, x2⟩ := x
      simp only at d0 d1 d2
      by_cases hE : (x0, x1, x2) = (y0, y1, y2)
      · cases hE
        have HF : Hid (r = true) := by rw [Hid, HR.out, HS.out]; simp
        clear HS HR
        have q0 : (y0 == y0) = true := by simp
        have q1 : (y1 == y1) = true := by simp
        have q2 : (y2 == y2) = true := by simp
        go_wp2_with fail
        go_quiet (fail)
        have bwd := below_dNW bw nq
        generalize wr.drewN nq = U at *
        clear d0 d1 d2 c0 c1 c2 bw q0 q1 q2
        go_wp2
        go_ret
        exact ⟨⟨k, rfl, by rw [HF.out]; simp⟩, bwd⟩
      · have HF : Hid (r = hasW (xs.drop (k + 1)) (y0, y1, y2)) := by rw [Hid, HR.out, HS.out]; simp only [hE, decide_false, Bool.false_or]
        clear HS HR
        have h3 : x0 ≠ y0 ∨ (x0 = y0 ∧ x1 ≠ y1) ∨ (x0 = y0 ∧ x1 = y1 ∧ x2 ≠ y2) := by
          by_cases q0 : x0 = y0
          · by_cases q1 : x1 = y1
            · refine .inr (.inr ⟨q0, q1, fun q2 => hE ?_⟩)
              rw [q0, q1, q2]
            · exact .inr (.inl ⟨q0, q1⟩)
          · exact .inl q0
        clear hE
        go_wp2_with fail
        rcases h3 with t0 | ⟨rfl, t1⟩ | ⟨rfl, rfl, t2⟩
        · have t0' : (y0 == x0) = false := by simp [Ne.symm t0]
          go_quiet (fail)
          have bwd := below_dNW bw nq
          replace c0 : (wr.drewN nq).cell? ⟨w.heap.size, 0, none⟩ = some (.int .i64 y0) := c0
          replace c1 : (wr.drewN nq).cell? ⟨w.heap.size, 1, none⟩ = some (.int .i64 y1) := c1
          replace c2 : (wr.drewN nq).cell? ⟨w.heap.size, 2, none⟩ = some (.int .i64 y2) := c2
          generalize wr.drewN nq = U at *
          clear d0 d1 d2 bw  t0 t0'
          go_wp2
          go_roundw
          case rel => exact ⟨k + 1, by omega, by go_num, HF, bwd, c0, c1, c2⟩
          case measure => simp [intOf]; omega
        · have q0 : (x0 == x0) = true := by simp
          have t1' : (y1 == x1) = false := by simp [Ne.symm t1]
          go_quiet (fail)
          have bwd := below_dNW bw nq
          replace c0 : (wr.drewN nq).cell? ⟨w.heap.size, 0, none⟩ = some (.int .i64 x0) := c0
          replace c1 : (wr.drewN nq).cell? ⟨w.heap.size, 1, none⟩ = some (.int .i64 y1) := c1
          replace c2 : (wr.drewN nq).cell? ⟨w.heap.size, 2, none⟩ = some (.int .i64 y2) := c2
          generalize wr.drewN nq = U at *
          clear d0 d1 d2 bw q0 t1 t1'
          go_wp2
          go_roundw
          case rel => exact ⟨k + 1, by omega, by go_num, HF, bwd, c0, c1, c2⟩
          case measure => simp [intOf]; omega
        · have q0 : (x0 == x0) = true := by simp
          have q1 : (x1 == x1) = true := by simp
          have t2' : (y2 == x2) = false := by simp [Ne.symm t2]
          go_quiet (fail)
          have bwd := below_dNW bw nq
          replace c0 : (wr.drewN nq).cell? ⟨w.heap.size, 0, none⟩ = some (.int .i64 x0) := c0
          replace c1 : (wr.drewN nq).cell? ⟨w.heap.size, 1, none⟩ = some (.int .i64 x1) := c1
          replace c2 : (wr.drewN nq).cell? ⟨w.heap.size, 2, none⟩ = some (.int .i64 y2) := c2
          generalize wr.drewN nq = U at *
          clear d0 d1 d2 bw q0 q1 t2 t2'
          go_wp2
          go_roundw
          case rel => exact ⟨k + 1, by omega, by go_num, HF, bwd, c0, c1, c2⟩
          case measure => simp [intOf]; omega
    · obtain rfl : k = n := by omega
      have HF : Hid (r = false) := by rw [Hid, HR.out, List.drop_of_length_le (by omega)]; rfl
      clear HR c0 c1 c2
      go_wp2
      go_ret
      exact ⟨⟨-1, rfl, by rw [HF.out]; simp⟩, bw⟩

set_option maxHeartbeats 1000000 in
set_option maxRecDepth 100000 in
theorem contains_is (a : Option Addr) (n cap : Nat) (xs : List I3) (y : I3) (w : World) (h : Instrs w a n cap xs) (hn : n ≤ 1000000) :
    Calls Tryd.prog 61 #[.slice a n cap, y.val] w fun e w' => e = .returned (.bool (hasW xs y)) ∧ Below w.heap.size w w' := by
  have kI := fun W hb => index_is a n cap xs y W hb hn
  obtain ⟨r, hr⟩ : ∃ r, r = hasW xs y := ⟨_, rfl⟩
  rw [← hr] at kI ⊢
  clear hr
  obtain ⟨y0, y1, y2⟩ := y
  unfold I3.val at *
  simp only at kI ⊢
  have bw : Below w.heap.size w (w.alloc (.cells #[.int .i64 y0, .int .i64 y1, .int .i64 y2] 40)) := by go_grown
  go_enter Tryd.func61, Tryd.ntmps61
  go_wp2_with fail
  refine (kI _ (h.below bw)).mono ?_
  rintro e w1 ⟨⟨i, rfl, hi⟩, hb⟩
  replace bw := bel_trans bw hb
  replace hi : decide (i ≥ 0) = r := hi
  clear kI hb h
  go_wp2
  go_ret
  exact ⟨rfl, bw⟩
end Go.Proofs.YtmhngodbnoonhaaDoor

