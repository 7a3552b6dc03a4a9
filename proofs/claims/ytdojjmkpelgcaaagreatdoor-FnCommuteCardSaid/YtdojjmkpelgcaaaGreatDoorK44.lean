/-
  Joined: EvF, CmtP, CmtQ, SmL, Schd, SchD, FrP, Vm5.
-/
import Derived.Test.YtdojjmkpelgcaaaGreatDoorProg
import Derived.Deep.RegionHeld3
import Derived.KernelRfl
import Derived.Tactics
import Derived.WalkKit
import Derived.WalkSpells
import Derived.WalkLawsBesides
import Derived.RegionTactic
import Derived.BigQuiet
import Derived.Deep.QuietTactic
import Derived.Deep.Slices
import Derived.Deep.Strs
import Derived.Deep.Fields
import Derived.ChangeSame
import Derived.ChangeSlices
import Derived.Lib.SmallJoins
import Derived.Handy
import Derived.OwnWalk
import Derived.Shelf.Abstract
import Derived.Laws.BytesArg
import Derived.Deep.RegionLaw
import Derived.Laws.OwnMore
import Derived.Laws.CopyOwn
import Derived.Laws.Tables
import Derived.BigRegion
import Derived.Maps.AppendAt
import Derived.Laws.RangeString
import Derived.Laws.RangeAny
import Derived.Laws.Bits
import Derived.Lib.FieldsP
import Derived.Stop.Asserts
import Derived.Recover
import Derived.Shelf.SlSortCmp.NoneTotal
import Derived.Shelf.Spec.SlicesGrow
import Derived.Laws.AppendOwnNone
import Derived.Lib.SliceRun
import Derived.Deep.MidRow
import Derived.Test.YtdojjmkpelgcaaaGreatDoorK01
import Derived.Test.YtdojjmkpelgcaaaGreatDoorK02
import Derived.Test.YtdojjmkpelgcaaaGreatDoorK03
import Derived.Test.YtdojjmkpelgcaaaGreatDoorK04
import Derived.Test.YtdojjmkpelgcaaaGreatDoorK06
import Derived.Test.YtdojjmkpelgcaaaGreatDoorK07
import Derived.Test.YtdojjmkpelgcaaaGreatDoorK08
import Derived.Test.YtdojjmkpelgcaaaGreatDoorK10
import Derived.Test.YtdojjmkpelgcaaaGreatDoorK11
import Derived.Test.YtdojjmkpelgcaaaGreatDoorK12
import Derived.Test.YtdojjmkpelgcaaaGreatDoorK13
import Derived.Test.YtdojjmkpelgcaaaGreatDoorK14
import Derived.Test.YtdojjmkpelgcaaaGreatDoorK15
import Derived.Test.YtdojjmkpelgcaaaGreatDoorK16
import Derived.Test.YtdojjmkpelgcaaaGreatDoorK23
import Derived.Test.YtdojjmkpelgcaaaGreatDoorK24
import Derived.Test.YtdojjmkpelgcaaaGreatDoorK25
import Derived.Test.YtdojjmkpelgcaaaGreatDoorK26
import Derived.Test.YtdojjmkpelgcaaaGreatDoorK28
import Derived.Test.YtdojjmkpelgcaaaGreatDoorK30
import Derived.Test.YtdojjmkpelgcaaaGreatDoorK31
import Derived.Test.YtdojjmkpelgcaaaGreatDoorK32
import Derived.Test.YtdojjmkpelgcaaaGreatDoorK33
import Derived.Test.YtdojjmkpelgcaaaGreatDoorK34
import Derived.Test.YtdojjmkpelgcaaaGreatDoorK36
import Derived.Test.YtdojjmkpelgcaaaGreatDoorK40
import Derived.Test.YtdojjmkpelgcaaaGreatDoorK41
import Derived.Test.YtdojjmkpelgcaaaGreatDoorK43

/-
  Both sides' EventsOf.
-/
namespace Go.Proofs.YtdojjmkpelgcaaaGreatDoor
open Go.RowKit
set_option linter.unusedVariables false
set_option linter.unusedSimpArgs false

set_option maxHeartbeats 800000 in
set_option maxRecDepth 100000 in
theorem implEventsOf_is (a : Option Addr) (len cap : Nat) (rows : List (List I3)) (la : Option Addr) (n c : Nat) (ks : List Int) (w : World) (hC : Codes w a len cap rows) (hV : VmShape w) (hL : Ints .i64 w la n c ks) :
    Calls Tryz.prog 11 #[.agg #[.slice a len cap], .slice la n c] w fun e w' => EvGot e w' w.heap.size (evE rows ks) (evK rows ks) ∧ Below w.heap.size w w' := by
  unfold evE evK
  rw [hL.1]
  have bw : Below w.heap.size w (w.alloc (.cells #[.slice a len cap] 25)) := by go_grown
  have pP : Blk (w.alloc (.cells #[.slice a len cap] 25)) w.heap.size 25 [.slice a len cap] := blkAt _ _ _ rfl
  by_cases hn : 4096 < n
  · have hn' : (4096 : Int) < (n : Int) := by omega
    simp only [if_pos hn]
    clear hC hL hn pP hV
    go_enter Tryz.func11, Tryz.ntmps11
    go_wp2
    go_ret2
    exact ⟨⟨_, rfl, World.ownsRow_nil _ _ _ _⟩, bw⟩
  simp only [if_neg hn]
  have hn' : ¬ (4096 : Int) < (n : Int) := by omega
  cases hp : progOk rows
  · have kN := fun W (b : Below w.heap.size w W) => newReplay_bad (hC.below b) (hV.below b) hp
    simp only [Bool.false_eq_true, if_false]
    clear hp hC hL hn hV
    go_enter Tryz.func11, Tryz.ntmps11
    go_wp2_with fail
    generalize (w.alloc (.cells #[.slice a len cap] 25)) = U at *
    go_wp2_with (first | refine wpList_load_blk rfl 25 _ rfl w.heap.size rfl pP _ Tryz.underlying25 rfl (by kernel_rfl) ?_)
    refine (kN _ bw).mono ?_
    rintro e w1 ⟨rfl, hb⟩
    replace bw := bel_trans bw hb
    have pN := Blk.new w1 96 [.slice none 0 0, .int .i64 0, .int .i64 0, .int .i64 0, .slice none 0 0, .int .i64 0, .int .i64 0, .int .i64 0, .slice none 0 0, .int .i64 0, .int .i64 0, .int .i64 0, .int .i64 0, .int .i64 0, .int .i64 0, .int .i64 0, .int .i64 0, .int .i64 0, .slice none 0 0]
    have ha : Below w1.heap.size w1 (w1.alloc (.cells #[.slice none 0 0, .int .i64 0, .int .i64 0, .int .i64 0, .slice none 0 0, .int .i64 0, .int .i64 0, .int .i64 0, .slice none 0 0, .int .i64 0, .int .i64 0, .int .i64 0, .int .i64 0, .int .i64 0, .int .i64 0, .int .i64 0, .int .i64 0, .int .i64 0, .slice none 0 0] 96)) := by go_grown
    have hgw : w.heap.size ≤ w1.heap.size := bw.size
    clear kN hb pP
    go_wp2_with (refine wpList_store_blk rfl 96 _ _ rfl w1.heap.size [.slice none 0 0, .int .i64 0, .int .i64 0, .int .i64 0, .slice none 0 0, .int .i64 0, .int .i64 0, .int .i64 0, .slice none 0 0, .int .i64 0, .int .i64 0, .int .i64 0, .int .i64 0, .int .i64 0, .int .i64 0, .int .i64 0, .int .i64 0, .int .i64 0, .slice none 0 0] rfl rfl pN (by kernel_rfl) rfl rfl ?_)
    intro W9 pM g1
    replace bw := (bel_trans bw ha).grown g1 (by simp; omega) (fun x hx => by cases hx; omega)
    clear g1 ha pN pM
    generalize w1.heap.size = g at *
    go_wp2
    go_ret2
    exact ⟨⟨_, rfl, World.ownsRow_nil _ _ _ _⟩, bw⟩
  · simp only [if_true]
    obtain ⟨rfl, cs, hR⟩ := hC.rowsAt hp
    exact implEventsOf_ok a cap rows la n c ks w hC hV hp hL hn

set_option maxHeartbeats 800000 in
set_option maxRecDepth 100000 in
theorem l05Ask_is (a : Option Addr) (len cap : Nat) (rows : List (List I3)) (la : Option Addr) (n c : Nat) (w : World) (hC : Codes w a len cap rows) (hn : ¬ 4096 < n) :
    Calls Tryz.prog 54 #[.agg #[.slice a len cap], .slice la n c] w fun e w' => e = .returned (.int .i64 (if progOk rows then 0 else 1)) ∧ Below w.heap.size w w' := by
  have bw : Below w.heap.size w (w.alloc (.cells #[.slice a len cap] 25)) := by go_grown
  have pP : Blk (w.alloc (.cells #[.slice a len cap] 25)) w.heap.size 25 [.slice a len cap] := blkAt _ _ _ rfl
  have hn' : ¬ (4096 : Int) < (n : Int) := by omega
  have kP := fun W (b : Below w.heap.size w W) => specProgramOK_is a len cap rows W (hC.below b)
  cases hp : progOk rows
  · rw [hp] at kP
    clear hC hn hp
    go_enter Tryz.func54, Tryz.ntmps54
    go_wp2_with fail
    generalize (w.alloc (.cells #[.slice a len cap] 25)) = U at *
    go_wp2_with (first | refine wpList_load_blk rfl 25 _ rfl w.heap.size rfl pP _ Tryz.underlying25 rfl (by kernel_rfl) ?_)
    refine (kP _ bw).mono ?_
    rintro e w1 ⟨rfl, hb⟩
    replace bw := bel_trans bw hb
    clear hb kP pP
    go_wp2
    go_ret
    exact ⟨rfl, bw⟩
  · rw [hp] at kP
    clear hC hn hp
    go_enter Tryz.func54, Tryz.ntmps54
    go_wp2_with fail
    generalize (w.alloc (.cells #[.slice a len cap] 25)) = U at *
    go_wp2_with (first | refine wpList_load_blk rfl 25 _ rfl w.heap.size rfl pP _ Tryz.underlying25 rfl (by kernel_rfl) ?_)
    refine (kP _ bw).mono ?_
    rintro e w1 ⟨rfl, hb⟩
    replace bw := bel_trans bw hb
    clear hb kP pP
    go_wp2
    go_ret
    exact ⟨rfl, bw⟩

set_option maxHeartbeats 800000 in
set_option maxRecDepth 100000 in
theorem specEventsOf_is (a : Option Addr) (len cap : Nat) (rows : List (List I3)) (la : Option Addr) (n c : Nat) (ks : List Int) (w : World) (hC : Codes w a len cap rows) (hL : Ints .i64 w la n c ks) :
    Calls Tryz.prog 12 #[.agg #[.slice a len cap], .slice la n c] w fun e w' => EvGot e w' w.heap.size (evE rows ks) (evK rows ks) ∧ Below w.heap.size w w' := by
  unfold evE evK
  rw [hL.1]
  have bw : Below w.heap.size w (w.alloc (.cells #[.slice a len cap] 25)) := by go_grown
  have pP : Blk (w.alloc (.cells #[.slice a len cap] 25)) w.heap.size 25 [.slice a len cap] := blkAt _ _ _ rfl
  by_cases hn : 4096 < n
  · have hn' : (4096 : Int) < (n : Int) := by omega
    simp only [if_pos hn]
    clear hC hL hn pP
    go_enter Tryz.func12, Tryz.ntmps12
    go_wp2
    go_ret2
    exact ⟨⟨_, rfl, by simpa [flat4] using own_emptyB (w.alloc (.cells #[.slice a len cap] 25)) 38 4 w.heap.size (by simp)⟩, bel_trans bw (by go_grown)⟩
  simp only [if_neg hn]
  have hn' : ¬ (4096 : Int) < (n : Int) := by omega
  have kA := fun W (b : Below w.heap.size w W) => l05Ask_is a len cap rows la n c W (hC.below b) hn
  cases hp : progOk rows
  · rw [hp] at kA
    simp only [Bool.false_eq_true, if_false] at kA ⊢
    clear hp hC hL hn
    go_enter Tryz.func12, Tryz.ntmps12
    go_wp2_with fail
    generalize (w.alloc (.cells #[.slice a len cap] 25)) = U at *
    go_wp2_with (first | refine wpList_load_blk rfl 25 _ rfl w.heap.size rfl pP _ Tryz.underlying25 rfl (by kernel_rfl) ?_)
    refine (kA _ bw).mono ?_
    rintro e w1 ⟨rfl, hb⟩
    replace bw := bel_trans bw hb
    have q := own_emptyB w1 38 4 w.heap.size bw.size
    have bz := bel_trans bw (by go_grown : Below w1.heap.size w1 (w1.alloc (.cells #[] 38)))
    clear hb kA pP bw
    go_wp2
    go_ret2
    exact ⟨⟨_, rfl, q⟩, bz⟩
  · rw [hp] at kA
    simp only [if_true] at kA ⊢
    obtain ⟨rfl, cs, hR⟩ := hC.rowsAt hp
    have kE := fun W (b : Below w.heap.size w W) => l05Events_is (cap := cap) (hR.below b) hp (hL.below b) (by omega)
    generalize (if (runI rows zeroV [] ks).2.2 = 0 then evsM rows zeroV ks else []) = es at *
    generalize (runI rows zeroV [] ks).2.2 = cd at *
    clear hp hC hL hn hR
    go_enter Tryz.func12, Tryz.ntmps12
    go_wp2_with fail
    generalize (w.alloc (.cells #[.slice a 3 cap] 25)) = U at *
    go_wp2_with (first | refine wpList_load_blk rfl 25 _ rfl w.heap.size rfl pP _ Tryz.underlying25 rfl (by kernel_rfl) ?_)
    refine (kA _ bw).mono ?_
    rintro e w1 ⟨rfl, hb⟩
    replace bw := bel_trans bw hb
    replace pP := pP.below hb
    clear hb kA
    go_wp2_with (first | refine wpList_load_blk rfl 25 _ rfl w.heap.size rfl pP _ Tryz.underlying25 rfl (by kernel_rfl) ?_)
    refine (kE _ bw).mono ?_
    rintro e w2 ⟨⟨v, rfl, q⟩, hb⟩
    replace q := own_lowerB (B' := w.heap.size) q bw.size
    replace bw := bel_trans bw hb
    clear hb kE pP
    go_wp2
    go_ret2
    exact ⟨⟨_, rfl, q⟩, bw⟩
end Go.Proofs.YtdojjmkpelgcaaaGreatDoor


/-
  Two steps of two threads that do not depend on one another come to the same in either order.
-/
namespace Go.Proofs.YtdojjmkpelgcaaaGreatDoor
open Go.RowKit
set_option linter.unusedVariables false
set_option linter.unusedSimpArgs false

def pcC (m : V4) (x : I3) (k : Nat) : Int := if x.1 = 7 ∧ m.2.2.2.getD (k * 2 + x.2.1.toNat) 0 ≠ 0 then x.2.2 else m.1.getD k 0 + 1
def shC (m : V4) (x : I3) (k : Nat) : List Int := if x.1 = 2 then m.2.1.set x.2.1.toNat (m.2.2.2.getD (k * 2 + x.2.2.toNat) 0) else m.2.1
def lkC (m : V4) (x : I3) (k : Nat) : List Int := if x.1 = 5 then m.2.2.1.set x.2.1.toNat (k + 1) else if x.1 = 6 ∧ m.2.2.1.getD x.2.1.toNat 0 = k + 1 then m.2.2.1.set x.2.1.toNat 0 else m.2.2.1
def rgC (m : V4) (x : I3) (k : Nat) : List Int := if x.1 = 1 then m.2.2.2.set (k * 2 + x.2.1.toNat) (m.2.1.getD x.2.2.toNat 0) else if x.1 = 3 then m.2.2.2.set (k * 2 + x.2.1.toNat) x.2.2 else if x.1 = 4 then m.2.2.2.set (k * 2 + x.2.1.toNat) ((m.2.2.2.getD (k * 2 + x.2.1.toNat) 0 + x.2.2) % 10) else m.2.2.2
theorem step_parts (m : V4) (x : I3) (k : Nat) : (stepM m x k).1 = (m.1.set k (pcC m x k), shC m x k, lkC m x k, rgC m x k) := by
  unfold stepM pcC shC lkC rgC
  rcases op_cases x with h | h | h | h | h | h | h | h | ⟨h1, h2, h3, h4, h5, h6, h7, h8⟩
  · simp [h]
  · simp [h]
  · simp [h]
  · simp [h]
  · simp [h]
  · simp [h]; split <;> simp
  · simp [h]; split <;> simp_all
  · simp [h]; split <;> simp
  · simp [h1, h2, h3, h4, h5, h6, h7]; split <;> simp
theorem reg_own {k l : Nat} (h : k ≠ l) {a b : Int} (ha : 0 ≤ a ∧ a ≤ 1) (hb : 0 ≤ b ∧ b ≤ 1) : k * 2 + a.toNat ≠ l * 2 + b.toNat := by omega
theorem ok_bounds {x : I3} (h : okI x = true) : (x.1 ≠ 2 → 0 ≤ x.2.1 ∧ x.2.1 ≤ 1) ∧ (x.1 = 1 → 0 ≤ x.2.2 ∧ x.2.2 ≤ 3) ∧ (x.1 = 2 → (0 ≤ x.2.1 ∧ x.2.1 ≤ 3) ∧ 0 ≤ x.2.2 ∧ x.2.2 ≤ 1) := by
  unfold okI at h
  simp only [inB, Bool.and_eq_true, decide_eq_true_eq] at h
  repeat' split at h
  all_goals simp_all
def clashI (x y : I3) : Prop := 0 ≤ objM x ∧ objM x = objM y ∧ ¬ (x.1 = 1 ∧ y.1 = 1)
theorem reg_kept {m : V4} {y : I3} {k l : Nat} (h : k ≠ l) (hy : okI y = true) {a : Int} (ha : 0 ≤ a ∧ a ≤ 1) : (rgC m y l).getD (k * 2 + a.toNat) 0 = m.2.2.2.getD (k * 2 + a.toNat) 0 := by
  have hb := ok_bounds hy
  unfold rgC
  repeat' split
  all_goals first
    | rfl
    | (refine getD_set_ne (reg_own h ha (hb.1 ?_)); omega)
theorem sh_kept {m : V4} {x y : I3} {l : Nat} (hx : okI x = true) (hy : okI y = true) (hc : ¬ clashI x y) (h1 : x.1 = 1) : (shC m y l).getD x.2.2.toNat 0 = m.2.1.getD x.2.2.toNat 0 := by
  have ha := ok_bounds hx
  have hb := ok_bounds hy
  unfold shC
  split
  · rename_i h2
    refine getD_set_ne (fun e => hc ?_)
    have := ha.2.1 h1
    have := (hb.2.2 h2).1
    unfold clashI objM
    simp [h1, h2]
    omega
  · rfl
theorem lk_kept {m : V4} {x y : I3} {l : Nat} (hx : okI x = true) (hy : okI y = true) (hc : ¬ clashI x y) (h1 : x.1 = 5 ∨ x.1 = 6) : (lkC m y l).getD x.2.1.toNat 0 = m.2.2.1.getD x.2.1.toNat 0 := by
  have ha := (ok_bounds hx).1
  have hb := (ok_bounds hy).1
  have key : y.1 = 5 ∨ y.1 = 6 → x.2.1.toNat ≠ y.2.1.toNat := fun h2 e => hc (by
    have h3 := ha (by omega)
    have h4 := hb (by omega)
    have hxo : objM x = 4 + x.2.1 := by unfold objM; rw [if_neg (by omega), if_neg (by omega), if_pos h1]
    have hyo : objM y = 4 + y.2.1 := by unfold objM; rw [if_neg (by omega), if_neg (by omega), if_pos h2]
    refine ⟨by omega, by rw [hxo, hyo]; omega, by omega⟩)
  unfold lkC
  repeat' split
  · exact getD_set_ne (key (by omega))
  · exact getD_set_ne (key (by omega))
  · rfl
theorem clash_symm {x y : I3} (h : ¬ clashI x y) : ¬ clashI y x := fun ⟨a, b, c⟩ => h ⟨by omega, b.symm, fun e => c ⟨e.2, e.1⟩⟩
theorem pcC_kept {m : V4} {x y : I3} {k l : Nat} (h : k ≠ l) (hx : okI x = true) (hy : okI y = true) : pcC (stepM m y l).1 x k = pcC m x k := by
  rw [step_parts]
  have ha := ok_bounds hx
  unfold pcC
  simp only
  rw [getD_set_ne h]
  by_cases h7 : x.1 = 7
  · rw [reg_kept h hy (ha.1 (by omega))]
  · simp [h7]
def putO (u : Option Int) (R : List Int) (i : Nat) : List Int := match u with | none => R | some z => R.set i z
theorem step_commute {m : V4} {x y : I3} {k l : Nat} (h : k ≠ l) (hx : okI x = true) (hy : okI y = true) (hc : ¬ clashI x y) : (stepM (stepM m x k).1 y l).1 = (stepM (stepM m y l).1 x k).1 := by
  have hc' := clash_symm hc
  have bx := ok_bounds hx
  have by' := ok_bounds hy
  have p1 := pcC_kept (m := m) h hx hy
  have p2 := pcC_kept (m := m) (Ne.symm h) hy hx
  rw [step_parts (stepM m x k).1, step_parts (stepM m y l).1, p1, p2]
  have e1 : (stepM m x k).1.1 = m.1.set k (pcC m x k) := by rw [step_parts]
  have e2 : (stepM m y l).1.1 = m.1.set l (pcC m y l) := by rw [step_parts]
  have hsx : (stepM m x k).1.2.1 = shC m x k := by rw [step_parts]
  have hsy : (stepM m y l).1.2.1 = shC m y l := by rw [step_parts]
  have hlx : (stepM m x k).1.2.2.1 = lkC m x k := by rw [step_parts]
  have hly : (stepM m y l).1.2.2.1 = lkC m y l := by rw [step_parts]
  have hrx : (stepM m x k).1.2.2.2 = rgC m x k := by rw [step_parts]
  have hry : (stepM m y l).1.2.2.2 = rgC m y l := by rw [step_parts]
  refine Prod.ext ?_ (Prod.ext ?_ (Prod.ext ?_ ?_))
  · simp only
    rw [e1, e2, List.set_comm _ _ h]
  · simp only
    unfold shC
    rw [hsx, hsy, hrx, hry]
    by_cases x2 : x.1 = 2
    · have rx := reg_kept (m := m) (y := y) h hy (bx.2.2 x2).2
      by_cases y2 : y.1 = 2
      · have ry := reg_kept (m := m) (y := x) (Ne.symm h) hx (by'.2.2 y2).2
        have hne : x.2.1.toNat ≠ y.2.1.toNat := fun e => hc (by
          have := (bx.2.2 x2).1
          have := (by'.2.2 y2).1
          unfold clashI objM
          simp [x2, y2]
          omega)
        rw [if_pos y2, if_pos x2, rx, ry]
        unfold shC
        rw [if_pos x2, if_pos y2, List.set_comm _ _ hne]
      · rw [if_neg y2, if_pos x2, rx]
        unfold shC
        rw [if_pos x2, if_neg y2]
    · by_cases y2 : y.1 = 2
      · have ry := reg_kept (m := m) (y := x) (Ne.symm h) hx (by'.2.2 y2).2
        rw [if_pos y2, if_neg x2, ry]
        unfold shC
        rw [if_neg x2, if_pos y2]
      · rw [if_neg y2, if_neg x2]
        unfold shC
        rw [if_neg x2, if_neg y2]
  · simp only
    have kx : (x.1 = 5 ∨ x.1 = 6) → (lkC m y l).getD x.2.1.toNat 0 = m.2.2.1.getD x.2.1.toNat 0 := fun g => lk_kept hx hy hc g
    have ky : (y.1 = 5 ∨ y.1 = 6) → (lkC m x k).getD y.2.1.toNat 0 = m.2.2.1.getD y.2.1.toNat 0 := fun g => lk_kept hy hx hc' g
    have hne : (x.1 = 5 ∨ x.1 = 6) → (y.1 = 5 ∨ y.1 = 6) → x.2.1.toNat ≠ y.2.1.toNat := fun h1 h2 e => hc (by
      have h3 := bx.1 (by omega)
      have h4 := by'.1 (by omega)
      have hxo : objM x = 4 + x.2.1 := by unfold objM; rw [if_neg (by omega), if_neg (by omega), if_pos h1]
      have hyo : objM y = 4 + y.2.1 := by unfold objM; rw [if_neg (by omega), if_neg (by omega), if_pos h2]
      exact ⟨by omega, by rw [hxo, hyo]; omega, by omega⟩)
    have ex : ∀ L : List Int, (x.1 = 5 ∨ x.1 = 6 → L.getD x.2.1.toNat 0 = m.2.2.1.getD x.2.1.toNat 0) → (if x.1 = 5 then L.set x.2.1.toNat ((k : Int) + 1) else if x.1 = 6 ∧ L.getD x.2.1.toNat 0 = (k : Int) + 1 then L.set x.2.1.toNat 0 else L) = (if x.1 = 5 then L.set x.2.1.toNat ((k : Int) + 1) else if x.1 = 6 ∧ m.2.2.1.getD x.2.1.toNat 0 = (k : Int) + 1 then L.set x.2.1.toNat 0 else L) := fun L g => by
      by_cases a6 : x.1 = 6
      · rw [g (.inr a6)]
      · simp [a6]
    have ey : ∀ L : List Int, (y.1 = 5 ∨ y.1 = 6 → L.getD y.2.1.toNat 0 = m.2.2.1.getD y.2.1.toNat 0) → (if y.1 = 5 then L.set y.2.1.toNat ((l : Int) + 1) else if y.1 = 6 ∧ L.getD y.2.1.toNat 0 = (l : Int) + 1 then L.set y.2.1.toNat 0 else L) = (if y.1 = 5 then L.set y.2.1.toNat ((l : Int) + 1) else if y.1 = 6 ∧ m.2.2.1.getD y.2.1.toNat 0 = (l : Int) + 1 then L.set y.2.1.toNat 0 else L) := fun L g => by
      by_cases a6 : y.1 = 6
      · rw [g (.inr a6)]
      · simp [a6]
    unfold lkC
    rw [hlx, hly, ey _ ky, ex _ kx]
    unfold lkC
    by_cases x5 : x.1 = 5
    · by_cases y5 : y.1 = 5
      · simp only [x5, y5, if_true]
        exact List.set_comm _ _ (hne (.inl x5) (.inl y5))
      · by_cases y6 : y.1 = 6 ∧ m.2.2.1.getD y.2.1.toNat 0 = (l : Int) + 1
        · simp only [if_pos x5, if_neg y5, if_pos y6]
          exact List.set_comm _ _ (hne (.inl x5) (.inr y6.1))
        · simp only [if_pos x5, if_neg y5, if_neg y6]
    · by_cases x6 : x.1 = 6 ∧ m.2.2.1.getD x.2.1.toNat 0 = (k : Int) + 1
      · by_cases y5 : y.1 = 5
        · simp only [if_neg x5, if_pos x6, if_pos y5]
          exact List.set_comm _ _ (hne (.inr x6.1) (.inl y5))
        · by_cases y6 : y.1 = 6 ∧ m.2.2.1.getD y.2.1.toNat 0 = (l : Int) + 1
          · simp only [if_neg x5, if_pos x6, if_neg y5, if_pos y6]
            exact List.set_comm _ _ (hne (.inr x6.1) (.inr y6.1))
          · simp only [if_neg x5, if_pos x6, if_neg y5, if_neg y6]
      · simp only [if_neg x5, if_neg x6]
  · simp only
    have sx : x.1 = 1 → (shC m y l).getD x.2.2.toNat 0 = m.2.1.getD x.2.2.toNat 0 := fun g => sh_kept hx hy hc g
    have sy : y.1 = 1 → (shC m x k).getD y.2.2.toNat 0 = m.2.1.getD y.2.2.toNat 0 := fun g => sh_kept hy hx hc' g
    have rx : x.1 = 4 → (rgC m y l).getD (k * 2 + x.2.1.toNat) 0 = m.2.2.2.getD (k * 2 + x.2.1.toNat) 0 := fun g => reg_kept h hy (bx.1 (by omega))
    have ry : y.1 = 4 → (rgC m x k).getD (l * 2 + y.2.1.toNat) 0 = m.2.2.2.getD (l * 2 + y.2.1.toNat) 0 := fun g => reg_kept (Ne.symm h) hx (by'.1 (by omega))
    have hne : x.1 ≠ 2 → y.1 ≠ 2 → k * 2 + x.2.1.toNat ≠ l * 2 + y.2.1.toNat := fun a b => reg_own h (bx.1 a) (by'.1 b)
    obtain ⟨u, hu⟩ : ∃ u : Option Int, ∀ (S R : List Int), (x.1 = 1 → S.getD x.2.2.toNat 0 = m.2.1.getD x.2.2.toNat 0) → (x.1 = 4 → R.getD (k * 2 + x.2.1.toNat) 0 = m.2.2.2.getD (k * 2 + x.2.1.toNat) 0) → (if x.1 = 1 then R.set (k * 2 + x.2.1.toNat) (S.getD x.2.2.toNat 0) else if x.1 = 3 then R.set (k * 2 + x.2.1.toNat) x.2.2 else if x.1 = 4 then R.set (k * 2 + x.2.1.toNat) ((R.getD (k * 2 + x.2.1.toNat) 0 + x.2.2) % 10) else R) = putO u (R) (k * 2 + x.2.1.toNat) ∧ (u ≠ none → x.1 ≠ 2) := by
      by_cases a1 : x.1 = 1
      · exact ⟨some (m.2.1.getD x.2.2.toNat 0), fun S R g1 g4 => ⟨by rw [if_pos a1, g1 a1]; rfl, fun _ => by omega⟩⟩
      · by_cases a3 : x.1 = 3
        · exact ⟨some x.2.2, fun S R g1 g4 => ⟨by rw [if_neg a1, if_pos a3]; rfl, fun _ => by omega⟩⟩
        · by_cases a4 : x.1 = 4
          · exact ⟨some ((m.2.2.2.getD (k * 2 + x.2.1.toNat) 0 + x.2.2) % 10), fun S R g1 g4 => ⟨by rw [if_neg a1, if_neg a3, if_pos a4, g4 a4]; rfl, fun _ => by omega⟩⟩
          · exact ⟨none, fun S R g1 g4 => ⟨by rw [if_neg a1, if_neg a3, if_neg a4]; rfl, fun g => absurd rfl g⟩⟩
    obtain ⟨v, hv⟩ : ∃ v : Option Int, ∀ (S R : List Int), (y.1 = 1 → S.getD y.2.2.toNat 0 = m.2.1.getD y.2.2.toNat 0) → (y.1 = 4 → R.getD (l * 2 + y.2.1.toNat) 0 = m.2.2.2.getD (l * 2 + y.2.1.toNat) 0) → (if y.1 = 1 then R.set (l * 2 + y.2.1.toNat) (S.getD y.2.2.toNat 0) else if y.1 = 3 then R.set (l * 2 + y.2.1.toNat) y.2.2 else if y.1 = 4 then R.set (l * 2 + y.2.1.toNat) ((R.getD (l * 2 + y.2.1.toNat) 0 + y.2.2) % 10) else R) = putO v (R) (l * 2 + y.2.1.toNat) ∧ (v ≠ none → y.1 ≠ 2) := by
      by_cases a1 : y.1 = 1
      · exact ⟨some (m.2.1.getD y.2.2.toNat 0), fun S R g1 g4 => ⟨by rw [if_pos a1, g1 a1]; rfl, fun _ => by omega⟩⟩
      · by_cases a3 : y.1 = 3
        · exact ⟨some y.2.2, fun S R g1 g4 => ⟨by rw [if_neg a1, if_pos a3]; rfl, fun _ => by omega⟩⟩
        · by_cases a4 : y.1 = 4
          · exact ⟨some ((m.2.2.2.getD (l * 2 + y.2.1.toNat) 0 + y.2.2) % 10), fun S R g1 g4 => ⟨by rw [if_neg a1, if_neg a3, if_pos a4, g4 a4]; rfl, fun _ => by omega⟩⟩
          · exact ⟨none, fun S R g1 g4 => ⟨by rw [if_neg a1, if_neg a3, if_neg a4]; rfl, fun g => absurd rfl g⟩⟩
    have f1 := hv (shC m x k) (rgC m x k) sy ry
    have f2 := hu (shC m y l) (rgC m y l) sx rx
    have f3 := hu m.2.1 m.2.2.2 (fun _ => rfl) (fun _ => rfl)
    have f4 := hv m.2.1 m.2.2.2 (fun _ => rfl) (fun _ => rfl)
    have g3 : rgC m x k = putO u (m.2.2.2) (k * 2 + x.2.1.toNat) := f3.1
    have g4 : rgC m y l = putO v (m.2.2.2) (l * 2 + y.2.1.toNat) := f4.1
    have g1 : rgC (stepM m x k).1 y l = putO v (rgC m x k) (l * 2 + y.2.1.toNat) := by
      rw [← f1.1]
      show rgC (stepM m x k).1 y l = _
      unfold rgC
      rw [hsx, hrx]
      rfl
    have g2 : rgC (stepM m y l).1 x k = putO u (rgC m y l) (k * 2 + x.2.1.toNat) := by
      rw [← f2.1]
      show rgC (stepM m y l).1 x k = _
      unfold rgC
      rw [hsy, hry]
      rfl
    rw [g1, g2, g3, g4]
    cases u with
    | none => cases v <;> rfl
    | some a =>
      cases v with
      | none => rfl
      | some b => exact List.set_comm _ _ (hne (f3.2 (by simp)) (f4.2 (by simp)))
end Go.Proofs.YtdojjmkpelgcaaaGreatDoor


/-
  Neighbours of a schedule that do not depend on one another change places: the same state, the same events.
-/
namespace Go.Proofs.YtdojjmkpelgcaaaGreatDoor
open Go.RowKit
set_option linter.unusedVariables false
set_option linter.unusedSimpArgs false

theorem goM_natC (rows : List (List I3)) (m : V4) (k : Nat) : goM rows m (k : Int) = stepM m (insM rows m k) k := by unfold goM; rw [Int.toNat_natCast]
theorem done_other {rows : List (List I3)} {m : V4} {x : I3} {k l : Nat} (h : k ≠ l) : doneM rows (stepM m x k).1 l = doneM rows m l := by unfold doneM; rw [stepM_other m x (Ne.symm h)]
theorem ins_other {rows : List (List I3)} {m : V4} {x : I3} {k l : Nat} (h : k ≠ l) : insM rows (stepM m x k).1 l = insM rows m l := by unfold insM; rw [stepM_other m x (Ne.symm h)]
theorem event_other {rows : List (List I3)} {m : V4} {x : I3} {k l : Nat} (h : k ≠ l) : eventM rows (stepM m x k).1 l = eventM rows m l := by unfold eventM; rw [ins_other h, stepM_other m x (Ne.symm h)]
theorem lock_other {m : V4} {x y : I3} {k : Nat} (hx : okI x = true) (hy : okI y = true) (hc : ¬ clashI x y) : atLock (stepM m x k).1 y = atLock m y := by
  unfold atLock
  by_cases h5 : y.1 = 5
  · rw [step_parts]
    simp only
    rw [lk_kept hy hx (clash_symm hc) (.inl h5)]
  · simp [h5]
theorem dep_clash {rows : List (List I3)} {m : V4} {k l : Nat} (hd : depM (eventM rows m k) (eventM rows m l) = false) : k ≠ l ∧ ¬ clashI (insM rows m k) (insM rows m l) := by
  unfold depM eventM at hd
  simp only [Bool.or_eq_false_iff, decide_eq_false_iff_not] at hd
  obtain ⟨h1, h2⟩ := hd
  refine ⟨fun e => h1 (by rw [e]), ?_⟩
  rintro ⟨a, b, c⟩
  have e1 : decide (0 ≤ objM (insM rows m k)) = true := by simp [a]
  have e2 : decide (objM (insM rows m k) = objM (insM rows m l)) = true := by simp [b]
  have e3 : (decide ((insM rows m k).1 = 1) && decide ((insM rows m l).1 = 1)) = false := by
    cases e : (decide ((insM rows m k).1 = 1) && decide ((insM rows m l).1 = 1))
    · rfl
    · simp only [Bool.and_eq_true, decide_eq_true_eq] at e
      exact absurd e c
  rw [e1, e2, e3] at h2
  cases h2
theorem halt_go {rows : List (List I3)} {m : V4} {k : Nat} (hk : k < 3) (hc : canM rows m k = true) : haltM rows m (k : Int) = 0 := by
  have hd := (can_parts hc).1
  unfold haltM
  rw [if_pos (by omega), Int.toNat_natCast]
  simp [hd, hc]
theorem go_commute {rows : List (List I3)} {m : V4} {k l : Nat} (hp : progOk rows = true) (hs : shapeOk m = true) (h1 : haltM rows m (k : Int) = 0) (h2 : haltM rows (goM rows m (k : Int)).1 (l : Int) = 0) (hd : depM (eventM rows m k) (eventM rows (goM rows m (k : Int)).1 l) = false) :
    haltM rows m (l : Int) = 0 ∧ haltM rows (goM rows m (l : Int)).1 (k : Int) = 0 ∧ (goM rows (goM rows m (l : Int)).1 (k : Int)).1 = (goM rows (goM rows m (k : Int)).1 (l : Int)).1 ∧ eventM rows m l = eventM rows (goM rows m (k : Int)).1 l ∧ eventM rows (goM rows m (l : Int)).1 k = eventM rows m k := by
  obtain ⟨a0, a1, a2, a3⟩ := halt_can h1
  obtain ⟨b0, b1, b2, b3⟩ := halt_can h2
  rw [Int.toNat_natCast] at a2 a3 b2 b3
  have hk : k < 3 := by omega
  have hl : l < 3 := by omega
  simp only [goM_natC] at *
  have hkl : k ≠ l := fun e => by
    subst e
    unfold depM eventM at hd
    simp at hd
  rw [event_other hkl] at hd
  obtain ⟨_, hc⟩ := dep_clash hd
  rw [done_other hkl] at b2
  obtain ⟨_, _, _, _, ox⟩ := at_ins hp hs hk a2
  obtain ⟨_, _, _, _, oy⟩ := at_ins hp hs hl b2
  have c1 : canM rows m l = true := by
    unfold canM at b3 ⊢
    rw [done_other hkl, ins_other hkl, lock_other ox oy hc] at b3
    exact b3
  have c2 : canM rows (stepM m (insM rows m l) l).1 k = true := by
    unfold canM at a3 ⊢
    rw [done_other (Ne.symm hkl), ins_other (Ne.symm hkl), lock_other oy ox (clash_symm hc)]
    exact a3
  refine ⟨halt_go hl c1, halt_go hk c2, ?_, (event_other hkl).symm, event_other (Ne.symm hkl)⟩
  rw [ins_other hkl, ins_other (Ne.symm hkl)]
  exact (step_commute hkl ox oy hc).symm
theorem runI_fs (rows : List (List I3)) : ∀ (ks : List Int) (m : V4) (fs fs' : List I3), (runI rows m fs ks).1 = (runI rows m fs' ks).1 ∧ (runI rows m fs ks).2.2 = (runI rows m fs' ks).2.2
  | [], m, fs, fs' => ⟨rfl, rfl⟩
  | k :: ks, m, fs, fs' => by
    have e : ∀ f, runI rows m f (k :: ks) = if haltM rows m k = 0 then runI rows (goM rows m k).1 (f ++ ownM rows m k) ks else (m, f, haltM rows m k) := fun f => rfl
    rw [e, e]
    split
    · exact runI_fs rows ks _ _ _
    · exact ⟨rfl, rfl⟩
theorem runI_cons {rows : List (List I3)} {m : V4} {fs : List I3} {k : Int} {ks : List Int} (h : (runI rows m fs (k :: ks)).2.2 = 0) : haltM rows m k = 0 ∧ runI rows m fs (k :: ks) = runI rows (goM rows m k).1 (fs ++ ownM rows m k) ks := by
  have e : runI rows m fs (k :: ks) = if haltM rows m k = 0 then runI rows (goM rows m k).1 (fs ++ ownM rows m k) ks else (m, fs, haltM rows m k) := rfl
  by_cases hz : haltM rows m k = 0
  · rw [if_pos hz] at e
    exact ⟨hz, e⟩
  · rw [e, if_neg hz] at h
    exact absurd h hz
theorem runI_yes {rows : List (List I3)} {m : V4} {fs : List I3} {k : Int} {ks : List Int} (hz : haltM rows m k = 0) : runI rows m fs (k :: ks) = runI rows (goM rows m k).1 (fs ++ ownM rows m k) ks := by
  show (if haltM rows m k = 0 then _ else _) = _
  rw [if_pos hz]
theorem run_swap {rows : List (List I3)} {m : V4} {fs : List I3} {k l : Int} {ks : List Int} (hp : progOk rows = true) (hs : shapeOk m = true) (h : (runI rows m fs (k :: l :: ks)).2.2 = 0) (hd : depM (eventM rows m k.toNat) (eventM rows (goM rows m k).1 l.toNat) = false) :
    (runI rows m fs (l :: k :: ks)).1 = (runI rows m fs (k :: l :: ks)).1 ∧ (runI rows m fs (l :: k :: ks)).2.2 = 0 ∧ evsM rows m (l :: k :: ks) = eventM rows (goM rows m k).1 l.toNat :: eventM rows m k.toNat :: evsM rows (goM rows (goM rows m k).1 l).1 ks := by
  obtain ⟨h1, e1⟩ := runI_cons h
  rw [e1] at h ⊢
  obtain ⟨h2, e2⟩ := runI_cons h
  rw [e2] at h ⊢
  obtain ⟨a0, a1, _, _⟩ := halt_can h1
  obtain ⟨b0, b1, _, _⟩ := halt_can h2
  obtain ⟨k', rfl⟩ : ∃ k' : Nat, k = k' := ⟨k.toNat, by omega⟩
  obtain ⟨l', rfl⟩ : ∃ l' : Nat, l = l' := ⟨l.toNat, by omega⟩
  simp only [Int.toNat_natCast] at hd ⊢
  obtain ⟨g1, g2, g3, g4, g5⟩ := go_commute hp hs h1 h2 hd
  rw [runI_yes g1, runI_yes g2, g3]
  obtain ⟨f1, f2⟩ := runI_fs rows ks (goM rows (goM rows m (k' : Int)).1 (l' : Int)).1 (fs ++ ownM rows m (l' : Int) ++ ownM rows (goM rows m (l' : Int)).1 (k' : Int)) (fs ++ ownM rows m (k' : Int) ++ ownM rows (goM rows m (k' : Int)).1 (l' : Int))
  refine ⟨f1, f2.trans h, ?_⟩
  show eventM rows m (l' : Int).toNat :: eventM rows (goM rows m (l' : Int)).1 (k' : Int).toNat :: evsM rows (goM rows (goM rows m (l' : Int)).1 (k' : Int)).1 ks = _
  rw [Int.toNat_natCast, Int.toNat_natCast, g3, g4, g5]
theorem run_app {rows : List (List I3)} : ∀ (pre ks : List Int) (m : V4) (fs : List I3), (runI rows m fs pre).2.2 = 0 → runI rows m fs (pre ++ ks) = runI rows (runI rows m fs pre).1 (runI rows m fs pre).2.1 ks ∧ evsM rows m (pre ++ ks) = evsM rows m pre ++ evsM rows (runI rows m fs pre).1 ks
  | [], ks, m, fs, _ => ⟨rfl, rfl⟩
  | k :: pre, ks, m, fs, h => by
    obtain ⟨h1, e1⟩ := runI_cons h
    rw [e1] at h ⊢
    obtain ⟨i1, i2⟩ := run_app pre ks _ _ h
    rw [List.cons_append, runI_yes h1, i1]
    refine ⟨rfl, ?_⟩
    show eventM rows m k.toNat :: evsM rows (goM rows m k).1 (pre ++ ks) = eventM rows m k.toNat :: (evsM rows (goM rows m k).1 pre ++ _)
    rw [i2]
theorem run_pre {rows : List (List I3)} : ∀ (pre ks : List Int) (m : V4) (fs : List I3), (runI rows m fs (pre ++ ks)).2.2 = 0 → (runI rows m fs pre).2.2 = 0
  | [], ks, m, fs, _ => rfl
  | k :: pre, ks, m, fs, h => by
    rw [List.cons_append] at h
    obtain ⟨h1, e1⟩ := runI_cons h
    rw [runI_yes h1]
    rw [e1] at h
    exact run_pre pre ks _ _ h
theorem evsM_len (rows : List (List I3)) : ∀ (ks : List Int) (m : V4), (evsM rows m ks).length = ks.length
  | [], m => rfl
  | k :: ks, m => by show (evsM rows (goM rows m k).1 ks).length + 1 = ks.length + 1; rw [evsM_len rows ks]
theorem swap_at {rows : List (List I3)} (hp : progOk rows = true) (pre ks : List Int) (k l : Int) (h : (runI rows zeroV [] (pre ++ k :: l :: ks)).2.2 = 0) :
    ∃ e1 e2 rest, evsM rows zeroV (pre ++ k :: l :: ks) = evsM rows zeroV pre ++ e1 :: e2 :: rest ∧ (depM e1 e2 = false → (runI rows zeroV [] (pre ++ l :: k :: ks)).1 = (runI rows zeroV [] (pre ++ k :: l :: ks)).1 ∧ (runI rows zeroV [] (pre ++ l :: k :: ks)).2.2 = 0 ∧ evsM rows zeroV (pre ++ l :: k :: ks) = evsM rows zeroV pre ++ e2 :: e1 :: rest) := by
  have h0 := run_pre pre (k :: l :: ks) zeroV [] h
  have a1 := run_app pre (k :: l :: ks) zeroV [] h0
  have a2 := run_app pre (l :: k :: ks) zeroV [] h0
  have hs := (runI_ok hp pre zeroV [] zero_shape (by simp)).1
  rw [a1.1] at h
  refine ⟨_, _, _, a1.2, fun hd => ?_⟩
  obtain ⟨s1, s2, s3⟩ := run_swap hp hs h hd
  rw [a1.1, a2.1, a2.2, s3]
  exact ⟨s1, s2, rfl⟩
end Go.Proofs.YtdojjmkpelgcaaaGreatDoor


/-
  The specification's l05Same: whether two rows of numbers are the same.
-/
namespace Go.Proofs.YtdojjmkpelgcaaaGreatDoor
open Go.RowKit

theorem ext_getDL {xs ys : List Int} (hl : xs.length = ys.length) (h : ∀ i, i < xs.length → xs.getD i 0 = ys.getD i 0) : xs = ys := by
  refine List.ext_getElem hl (fun i h1 h2 => ?_)
  have := h i h1
  simpa [List.getD, h1, h2] using this

end Go.Proofs.YtdojjmkpelgcaaaGreatDoor


/-
  The specification's drawn schedule: threads that can go on, one after the other; in memory of its own.
-/
namespace Go.Proofs.YtdojjmkpelgcaaaGreatDoor
open Go.RowKit
set_option linter.unusedVariables false
set_option linter.unusedSimpArgs false

def goesTo (rows : List (List I3)) (ks : List Int) (m : V4) : Prop := (runI rows zeroV [] ks).2.2 = 0 ∧ (runI rows zeroV [] ks).1 = m
theorem runI_snoc (rows : List (List I3)) (k : Int) : ∀ (ks : List Int) (m : V4) (fs : List I3), (runI rows m fs ks).2.2 = 0 → runI rows m fs (ks ++ [k]) = runI rows (runI rows m fs ks).1 (runI rows m fs ks).2.1 [k]
  | [], m, fs, _ => rfl
  | j :: ks, m, fs, h => by
    by_cases hz : haltM rows m j = 0
    · have e1 : ∀ l, runI rows m fs (j :: l) = runI rows (goM rows m j).1 (fs ++ ownM rows m j) l := fun l => by
        show (if haltM rows m j = 0 then _ else _) = _
        rw [if_pos hz]
      rw [e1] at h
      rw [List.cons_append, e1, e1]
      exact runI_snoc rows k ks _ _ h
    · have e1 : runI rows m fs (j :: ks) = (m, fs, haltM rows m j) := by
        show (if haltM rows m j = 0 then _ else _) = _
        rw [if_neg hz]
      rw [e1] at h
      exact absurd h hz
theorem goesTo.snoc {rows : List (List I3)} {ks : List Int} {m : V4} {k : Nat} (h : goesTo rows ks m) (hk : k < 3) (hc : canM rows m k = true) : goesTo rows (ks ++ [(k : Int)]) (stepM m (insM rows m k) k).1 := by
  have hz : haltM rows m (k : Int) = 0 := by
    have hd := (can_parts hc).1
    unfold haltM
    rw [if_pos (by omega), Int.toNat_natCast]
    simp [hd, hc]
  have e := runI_snoc rows (k : Int) ks zeroV [] h.1
  rw [h.2] at e
  have e2 : runI rows m (runI rows zeroV [] ks).2.1 [(k : Int)] = ((goM rows m k).1, (runI rows zeroV [] ks).2.1 ++ ownM rows m k, 0) := by
    show (if haltM rows m k = 0 then _ else _) = _
    rw [if_pos hz]
    rfl
  rw [e2] at e
  unfold goesTo
  rw [e, goM_nat]
  exact ⟨rfl, rfl⟩
theorem own_apart_ne {w : World} {B e s n g t : Nat} {v : Value} {xs cs : List Value} (h : w.ownsRow B e s v n xs) (hB : Blk w g t cs) (he : e ≠ t) : v.ownBlock ≠ some g := own_ne_blk h hB he
theorem below_growS {p : Nat} {w w' : World} {r : Option Nat} (h : w.grownBy w' r) (hr : ∀ k, r = some k → p ≤ k) (hp : p ≤ w.heap.size) : Below p w w' := ⟨h.os, h.tape, h.output, h.size, fun k hk => h.block k (by omega) (fun e => by have := hr k e.symm; omega)⟩
theorem own_kept_ltS {w w' : World} {b N e s n : Nat} {v : Value} {xs : List Value} {r : Option Nat} (h : w.ownsRow b e s v n xs) (hg : w.grownBy w' r) (hr : ∀ j, r = some j → j < N) (hN : N ≤ b) : w'.ownsRow b e s v n xs := by
  refine h.kept hg ?_
  cases hv : v.ownBlock with
  | none => exact .inl rfl
  | some j => exact .inr fun e => by have h1 := (h.lt j hv).1; have h2 := hr j e.symm; omega
theorem OwnV.kept_ltS {w w' : World} {B b N : Nat} {t : S4} {m : V4} {r : Option Nat} (h : OwnV w b t m) (hg : w.grownBy w' r) (hr : ∀ j, r = some j → j < N) (hB : B ≤ b) (hN : N ≤ b) : OwnV w' B t m :=
  ⟨⟨own_lowerB (own_kept_ltS h.1.1 hg hr hN) hB, own_lowerB (own_kept_ltS h.1.2.1 hg hr hN) hB, own_lowerB (own_kept_ltS h.1.2.2.1 hg hr hN) hB, own_lowerB (own_kept_ltS h.1.2.2.2 hg hr hN) hB⟩, h.2⟩
def OnSch (w wr : World) (p : Nat) (cd : Value) (a : Option Addr) (n cap T X5 : Nat) (aP : Option Addr) (capP : Nat) (rows : List (List I3)) (t : S4) (m : V4) (v : Value) (ks : List Int) : Prop :=
  Src wr p cd T ∧ Code wr p a n cap ∧ p < wr.heap.size ∧ Went p w wr ∧ Blk wr w.heap.size 25 [.slice aP 3 capP] ∧ Blk wr X5 33 (vmC t) ∧ OwnV wr (w.heap.size + 1) t m ∧ Hid (shapeOk m = true) ∧ wr.ownsRow (w.heap.size + 1) 3 1 v ks.length (ks.map (Value.int .i64)) ∧ Hid (goesTo rows ks m) ∧ w.heap.size < X5 ∧ ∃ g c, v = .slice (some ⟨g, 0, none⟩) ks.length c
def SchGot (e : Ending) (w : World) (B : Nat) (rows : List (List I3)) : Prop := ∃ (v : Value) (ks : List Int) (m : V4), (∃ g c, v = .slice (some ⟨g, 0, none⟩) ks.length c) ∧ e = .returned v ∧ w.ownsRow B 3 1 v ks.length (ks.map (Value.int .i64)) ∧ ks.length ≤ 14 ∧ goesTo rows ks m

set_option maxHeartbeats 600000 in
set_option maxRecDepth 100000 in
theorem schedule_any (p T : Nat) (a : Option Addr) (n cap : Nat) (aP : Option Addr) (capP : Nat) (rows : List (List I3)) (w : World) (hS : Src w p (.slice a n cap) T) (hC : Code w p a n cap) (hT : T ≤ 800000) (hok : progOk rows = true)
    (hPr : ∀ W, Below p w W → Codes W aP 3 capP rows) :
    Calls Tryz.prog 50 #[.pointer (some ⟨p, 0, none⟩), .agg #[.slice aP 3 capP]] w fun e w' => SchGot e w' w.heap.size rows ∧ Below p w w' := by
  obtain ⟨i0, hi9, hz0, hz1, hz2⟩ := info_parts info_int
  have hpw : p < w.heap.size := hS.lt
  have HOK : Hid (progOk rows = true) := hok
  clear hok
  have hW1 : Went p w (w.alloc (.cells #[.slice aP 3 capP] 25)) := (Went.refl p w).alloc _
  have pP : Blk (w.alloc (.cells #[.slice aP 3 capP] 25)) w.heap.size 25 [.slice aP 3 capP] := blkAt _ _ _ rfl
  have hS1 := hS.alloc (.cells #[.slice aP 3 capP] 25)
  have hC1 := hC.below (hW1.below (Nat.le_of_lt hpw))
  have hsz : (w.alloc (.cells #[.slice aP 3 capP] 25)).heap.size = w.heap.size + 1 := by simp
  go_enter Tryz.func50, Tryz.ntmps50
  go_wp2_with fail
  generalize (w.alloc (.cells #[.slice aP 3 capP] 25)) = W1 at *
  refine (specNewVm_is W1).mono ?_
  rintro e w2 ⟨⟨t0, rfl, hO⟩, hb⟩
  obtain ⟨⟨a0, n0, k0⟩, ⟨a1, n1, k1⟩, ⟨a2, n2, k2⟩, ⟨a3, n3, k3⟩⟩ := t0
  have uA : S4.val ((a0, n0, k0), (a1, n1, k1), (a2, n2, k2), (a3, n3, k3)) = .agg #[.slice a0 n0 k0, .slice a1 n1 k1, .slice a2 n2 k2, .slice a3 n3 k3] := rfl
  rw [uA]
  rw [hsz] at hO
  have hp1 : p < W1.heap.size := by omega
  have hW2 := hW1.trans (Went.of_below hb)
  have pP2 := pP.below hb
  have hS2 := hS1.belowD hb
  have hC2 := hC1.below (hb.mono (Nat.le_of_lt hp1))
  have hp2 : p < w2.heap.size := Nat.lt_of_lt_of_le hp1 hb.size
  have hw2 : w.heap.size < w2.heap.size := pP2.lt
  clear hb hW1 pP hS1 hC1 hp1 uA hsz
  have bA : Below w2.heap.size w2 ((w2.alloc (.cells #[.slice a0 n0 k0, .slice a1 n1 k1, .slice a2 n2 k2, .slice a3 n3 k3] 33)).alloc (.cells #[] 3)) := by go_grown
  have pX : Blk ((w2.alloc (.cells #[.slice a0 n0 k0, .slice a1 n1 k1, .slice a2 n2 k2, .slice a3 n3 k3] 33)).alloc (.cells #[] 3)) w2.heap.size 33 [.slice a0 n0 k0, .slice a1 n1 k1, .slice a2 n2 k2, .slice a3 n3 k3] := blkOld _ (blkAt _ _ _ rfl)
  have q : ((w2.alloc (.cells #[.slice a0 n0 k0, .slice a1 n1 k1, .slice a2 n2 k2, .slice a3 n3 k3] 33)).alloc (.cells #[] 3)).ownsRow (w.heap.size + 1) 3 1 (.slice (some ⟨w2.heap.size + 1, 0, none⟩) 0 0) 0 [] := by
    have h9 := own_emptyB (w2.alloc (.cells #[.slice a0 n0 k0, .slice a1 n1 k1, .slice a2 n2 k2, .slice a3 n3 k3] 33)) 3 1 (w.heap.size + 1) (by simp; omega)
    simpa using h9
  have hWay : OnSch w ((w2.alloc (.cells #[.slice a0 n0 k0, .slice a1 n1 k1, .slice a2 n2 k2, .slice a3 n3 k3] 33)).alloc (.cells #[] 3)) p (.slice a n cap) a n cap T w2.heap.size aP capP rows ((a0, n0, k0), (a1, n1, k1), (a2, n2, k2), (a3, n3, k3)) zeroV (.slice (some ⟨w2.heap.size + 1, 0, none⟩) 0 0) [] := ⟨hS2.belowD bA, hC2.below (bA.mono (Nat.le_of_lt hp2)), by simp; omega, hW2.trans (Went.of_below bA), pP2.below bA, pX, hO.below bA, zero_shape, q, ⟨rfl, rfl⟩, hw2, _, _, rfl⟩
  clear bA pX hS2 hC2 hW2 pP2 hO q
  go_wp2_with fail
  generalize ((w2.alloc (.cells #[.slice a0 n0 k0, .slice a1 n1 k1, .slice a2 n2 k2, .slice a3 n3 k3] 33)).alloc (.cells #[] 3)) = W3 at *
  generalize w2.heap.size + 1 = g0 at *
  generalize w2.heap.size = X5 at *
  obtain ⟨hSr, hCd, hpU, hWn, pP, pX, hO, HS, q, HG, hX5, _⟩ := hWay
  refine (next_any p T a n cap 14 W3 hSr hCd (by omega) (by omega)).mono ?_
  rintro e w4 ⟨⟨v, hv, rfl⟩, hSr4, hst⟩
  have hWay : OnSch w w4 p (.slice a n cap) a n cap (T + 3) X5 aP capP rows ((a0, n0, k0), (a1, n1, k1), (a2, n2, k2), (a3, n3, k3)) zeroV (.slice (some ⟨g0, 0, none⟩) 0 0) [] := ⟨hSr4, hCd.went hst (Nat.le_of_lt hpU), Nat.lt_of_lt_of_le hpU hst.size, hWn.trans hst, pP.went hst (by omega), pX.went hst (by omega), hO.went hst (by omega), HS, owns_wn q hst (by omega), HG, hX5, _, _, rfl⟩
  have hv14 : v ≤ 14 := by omega
  clear hSr hCd hpU hWn pP pX hO HS hSr4 hst hv q HG
  go_wp2_with fail
  go_loopw [6, 7] (fun so si wr => ∃ (i TT : Nat) (t : S4) (m : V4) (ks : List Int) (vo : Value), vo = so ∧ si = .int .i64 i ∧ i ≤ 14 ∧ TT ≤ T + 3 + (14 - i) * 3 ∧ ks.length + i ≤ 14 ∧ OnSch w wr p (.slice a n cap) a n cap TT X5 aP capP rows t m vo ks) (fun _ si _ => (intOf si).toNat)
  case atStart => exact ⟨v, T + 3, _, _, [], _, rfl, rfl, hv14, by omega, by simpa using hv14, hWay⟩
  case round =>
    clear hWay hv14
    obtain ⟨i, TT, t, m, ks, so, rfl, rfl, hi, hTT, hki, hSr, hCd, hpU, hWn, pP, pX, hO, HS, q, HG, hX5, hsm⟩ := hrel
    have HSM : Hid (∃ g c, so = .slice (some ⟨g, 0, none⟩) ks.length c) := hsm
    clear hsm
    have hpX : p ≠ X5 := by omega
    obtain ⟨⟨a0, n0, k0⟩, ⟨a1, n1, k1⟩, ⟨a2, n2, k2⟩, ⟨a3, n3, k3⟩⟩ := t
    unfold vmC at pX
    simp only at pX
    have HE : Hid (∀ W, Below wr.heap.size wr W → ∀ v9 : Value, v9 = so → SchGot (.returned v9) W w.heap.size rows ∧ Below p w W) := fun W b v9 e9 => ⟨⟨v9, ks, m, by rw [e9]; exact HSM.out, rfl, by rw [e9]; exact own_lowerB (owns_below q b) (by omega), by omega, HG.out⟩, (hWn.trans (Went.of_below b)).below (Nat.le_of_lt hpw)⟩
    by_cases hi0 : i = 0
    · subst hi0
      have hE := HE.out wr (Below.refl _ _) _ rfl
      clear hSr hCd hWn hO HS pP HE q HG pX
      go_wp2_with fail
      go_ret
      exact hE
    · have hip : (0 : Int) < (i : Int) := by omega
      obtain ⟨_, cs, hR⟩ := (hPr wr (hWn.below (Nat.le_of_lt hpw))).rowsAt HOK.out
      have hM := hO.mem (shape_fits9 HS.out).1
      have kE := l03Enabled_is aP 3 capP rows _ m cs wr rfl hR hM HOK.out HS.out
      have uA : S4.val ((a0, n0, k0), (a1, n1, k1), (a2, n2, k2), (a3, n3, k3)) = .agg #[.slice a0 n0 k0, .slice a1 n1 k1, .slice a2 n2 k2, .slice a3 n3 k3] := rfl
      rw [uA] at kE
      clear uA hM hR
      go_wp2_with (first | refine wpList_load_blk rfl 25 _ rfl w.heap.size rfl pP _ Tryz.underlying25 rfl (by kernel_rfl) ?_ | refine wpList_load_blk rfl 33 _ rfl X5 rfl pX _ Tryz.underlying33 rfl (by kernel_rfl) ?_)
      refine kE.mono ?_
      rintro e w5 ⟨⟨⟨la, ll, lc⟩, rfl, hLi⟩, hb⟩
      clear kE
      have hl : (enabM rows m 3).length = ll := hLi.ints.1
      by_cases hL0 : ll = 0
      · subst hL0
        have hE := HE.out w5 hb _ rfl
        clear hSr hCd hWn hO HS pP HE q HG pX hLi hl hb
        go_wp2_with fail
        go_ret
        exact hE
      have hwr : w.heap.size + 1 ≤ wr.heap.size := pP.lt
      replace hSr := hSr.belowD hb
      replace hCd := hCd.below (hb.mono (Nat.le_of_lt hpU))
      replace hWn := hWn.trans (Went.of_below hb)
      replace pP := pP.below hb
      replace pX := pX.below hb
      replace hO := hO.below hb
      replace q := owns_below q hb
      have hLi2 : OwnI w5 (w.heap.size + 1) (la, ll, lc) (enabM rows m 3) := own_lower hLi hwr
      replace hpU : p < w5.heap.size := Nat.lt_of_lt_of_le hpU hb.size
      clear hb hLi HE hwr
      have hLz : ((ll : Int) == 0) = false := by simp; omega
      have hL3 : ll ≤ 3 := by rw [← hl]; exact enabM_len rows m 3
      obtain ⟨lg, lc2, hsl, _, _⟩ := hLi2.some9 hl (by omega)
      cases hsl
      have HAT : Hid (∀ j, j < ll → ∃ k : Nat, (enabM rows m 3).getD j 0 = k ∧ k < 3 ∧ canM rows m k = true) := fun j hj => enab_at (by omega)
      clear hl
      obtain ⟨es, hes⟩ : ∃ es, es = enabM rows m 3 := ⟨_, rfl⟩
      rw [← hes] at HAT hLi2
      clear hes
      go_wp2_with fail
      refine (next_any p TT a n cap (ll : Int) w5 hSr hCd (by omega) (by omega)).mono ?_
      rintro e w6 ⟨⟨v, hv, rfl⟩, hSn, hst⟩
      have hvl : v < ll := by omega
      have hvi : (v : Int) < (ll : Int) := by omega
      have hv0 : (0 : Int) ≤ (v : Int) := by omega
      obtain ⟨kk, hkk, hk3, hcan⟩ := HAT.out v hvl
      have HCN : Hid (canM rows m kk = true) := hcan
      replace hSr := hSn
      replace hCd := hCd.went hst (Nat.le_of_lt hpU)
      replace hpU : p < w6.heap.size := Nat.lt_of_lt_of_le hpU hst.size
      replace hWn := hWn.trans hst
      replace pP := pP.went hst (by omega)
      replace pX := pX.went hst (by omega)
      replace hO := hO.went hst (by omega)
      replace q := owns_wn q hst (by omega)
      replace hLi2 := hLi2.went hst (by omega)
      have hcv := hLi2.at9 hvl
      rw [hkk] at hcv
      clear hst hSn hv hcan HAT hkk hLi2 hLz
      obtain ⟨_, cs, hR⟩ := (hPr w6 (hWn.below (Nat.le_of_lt hpw))).rowsAt HOK.out
      have hM := hO.mem (shape_fits9 HS.out).1
      have hsh := shape_step HOK.out HS.out hk3 (can_parts HCN.out).1
      have kT := l03Step_is (cap := capP) rfl hR hM HOK.out HS.out hk3 (can_parts HCN.out).1
      have HG2 : Hid (goesTo rows (ks ++ [(kk : Int)]) (stepM m (insM rows m kk) kk).1) := HG.out.snoc hk3 HCN.out
      have uA : S4.val ((a0, n0, k0), (a1, n1, k1), (a2, n2, k2), (a3, n3, k3)) = .agg #[.slice a0 n0 k0, .slice a1 n1 k1, .slice a2 n2 k2, .slice a3 n3 k3] := rfl
      rw [uA] at kT
      generalize (stepM m (insM rows m kk) kk).1 = mm at *
      generalize (stepM m (insM rows m kk) kk).2 = fd at *
      have HS2 : Hid (shapeOk mm = true) := hsh
      clear hM hR uA hsh HCN HG HS
      go_wp2_with (first | refine wpList_load_blk rfl 25 _ rfl w.heap.size rfl pP _ Tryz.underlying25 rfl (by kernel_rfl) ?_ | refine wpList_load_blk rfl 33 _ rfl X5 rfl pX _ Tryz.underlying33 rfl (by kernel_rfl) ?_)
      refine kT.mono ?_
      rintro e w7 ⟨⟨⟨⟨b0, m0, q0⟩, ⟨b1, m1, q1⟩, ⟨b2, m2, q2⟩, ⟨b3, m3, q3⟩⟩, rfl, hO2⟩, hb⟩
      have uC : S4.val ((b0, m0, q0), (b1, m1, q1), (b2, m2, q2), (b3, m3, q3)) = .agg #[.slice b0 m0 q0, .slice b1 m1 q1, .slice b2 m2 q2, .slice b3 m3 q3] := rfl
      rw [uC]
      clear uC kT hcv
      have hN6 : w.heap.size + 1 ≤ w6.heap.size := pP.lt
      have hqlt : ∀ j, so.ownBlock = some j → j < w6.heap.size := fun j hj => (q.lt j hj).2
      have bA : Below w7.heap.size w7 (w7.alloc (.cells #[.slice b0 m0 q0, .slice b1 m1 q1, .slice b2 m2 q2, .slice b3 m3 q3] 33)) := by go_grown
      have pY : Blk (w7.alloc (.cells #[.slice b0 m0 q0, .slice b1 m1 q1, .slice b2 m2 q2, .slice b3 m3 q3] 33)) w7.heap.size 33 [.slice b0 m0 q0, .slice b1 m1 q1, .slice b2 m2 q2, .slice b3 m3 q3] := blkAt _ _ _ rfl
      have b67 := bel_trans hb bA
      replace hSr := hSr.belowD b67
      replace hCd := hCd.below (b67.mono (Nat.le_of_lt hpU))
      replace hWn := hWn.trans (Went.of_below b67)
      replace pP := pP.below b67
      replace pX := pX.below b67
      replace q := owns_below q b67
      replace hO2 := hO2.below bA
      replace hpU : p < (w7.alloc (.cells #[.slice b0 m0 q0, .slice b1 m1 q1, .slice b2 m2 q2, .slice b3 m3 q3] 33)).heap.size := Nat.lt_of_lt_of_le hpU b67.size
      clear b67 bA hb hO
      go_wp2_with (first | refine wpList_load_blk rfl 33 _ rfl w7.heap.size rfl pY _ Tryz.underlying33 rfl (by kernel_rfl) ?_ | refine wpList_store_blk rfl 33 _ _ rfl X5 [.slice b0 m0 q0, .slice b1 m1 q1, .slice b2 m2 q2, .slice b3 m3 q3] rfl rfl pX (by kernel_rfl) rfl rfl ?_)
      intro w9 pX9 g9
      have hne2 : X5 ≠ w.heap.size := by omega
      replace hSr := hSr.grown g9 (fun k e => by cases e; omega)
      replace hCd := hCd.below (grown_below g9 (show p ≤ X5 by omega) (Nat.le_of_lt hpU))
      replace hpU : p < w9.heap.size := Nat.lt_of_lt_of_le hpU g9.size
      replace hWn := hWn.grown g9 (fun k e => by cases e; omega)
      replace pP := pP.kept g9 (fun e => hne2 (by cases e; rfl))
      replace hO2 := hO2.kept9 g9 pX (by decide)
      replace q := q.kept g9 (own_apart_blk q pX (by decide))
      have pX := pX9.out
      clear g9 pX9 pY
      have hln : ks.length ≤ 14 := by omega
      have ha : Below w9.heap.size w9 (w9.alloc (.cells #[.int .i64 (kk : Int)] 3)) := by go_grown
      have hw9 : w.heap.size + 1 ≤ w9.heap.size := pP.lt
      go_wp2_with (at_builtin; refine wpList_append_own _ rfl _ _ 27 rfl (w.heap.size + 1) 3 i0 (.int .i64 0) 1 8 Tryz.underlying27 hi9 hz0 hz1 hz2 rfl (by decide) _ _ _ rfl (q.alloc _) ⟨w9.heap.size, 0, none⟩ 1 1 [.int .i64 (kk : Int)] rfl rfl (cell_one_new _ _ _) (by simp [Value.oneCell']) ?c3 ?c4 ?c5 ?_)
      case c3 => unfold maxLen; omega
      case c4 => omega
      case c5 => simp; omega
      intro v9 wn q9 g9 _
      have hne : ∀ j, so.ownBlock = some j → w.heap.size + 1 ≤ j := fun j hj => (q.lt j hj).1
      have R : wn.ownsRow (w.heap.size + 1) 3 1 v9 (ks ++ [(kk : Int)]).length ((ks ++ [(kk : Int)]).map (Value.int .i64)) := by
        rw [List.length_append, List.map_append]
        exact q9
      have hsm2 := own_someB R (by rw [List.length_append]; simp)
      have hWay : OnSch w wn p (.slice a n cap) a n cap (TT + 3) X5 aP capP rows ((b0, m0, q0), (b1, m1, q1), (b2, m2, q2), (b3, m3, q3)) mm v9 (ks ++ [(kk : Int)]) := ⟨(hSr.belowD ha).grown g9 (fun k e => by have := hne k e; omega), (hCd.below (ha.mono (Nat.le_of_lt hpU))).below (below_growS g9 (fun k e => by have := hne k e; omega) (by have := ha.size; omega)), Nat.lt_of_lt_of_le hpU (Nat.le_trans ha.size g9.size), (hWn.trans (Went.of_below ha)).grown g9 (fun k e => by have := hne k e; omega), (pP.below ha).kept g9 (fun e => by have := hne _ e; omega), (pX.below ha).kept g9 (fun e => own_apart_ne q pX (by decide) e), OwnV.kept_ltS (hO2.below ha) g9 hqlt hN6 (Nat.le_refl _), HS2, R, HG2, hX5, hsm2⟩
      clear q9 g9 R hsm2 hSr hCd hpU hWn pP pX hO2 HS2 HG2 q ha hne hqlt
      go_wp2
      go_roundw
      case rel => exact ⟨i - 1, TT + 3, _, mm, ks ++ [(kk : Int)], _, rfl, by go_num, by omega, by omega, by rw [List.length_append]; simp; omega, hWay⟩
      case measure => simp [intOf]; omega
end Go.Proofs.YtdojjmkpelgcaaaGreatDoor


/-
  The specification's ScheduleDrawn.
-/
namespace Go.Proofs.YtdojjmkpelgcaaaGreatDoor
open Go.RowKit
set_option linter.unusedVariables false
set_option linter.unusedSimpArgs false

set_option maxHeartbeats 1000000 in
set_option maxRecDepth 100000 in
theorem scheduleDrawn_any (a : Option Addr) (n cap : Nat) (zs : List Int) (aP : Option Addr) (capP : Nat) (rows : List (List I3)) (w : World) (hI : IsRow .u8 w a n cap zs) (hn : n ≤ 1048576) (hP : Codes w aP 3 capP rows) (hok : progOk rows = true) :
    Calls Tryz.prog 10 #[.slice a n cap, .agg #[.slice aP 3 capP]] w fun e w' => SchGot e w' w.heap.size rows ∧ Below w.heap.size w w' := by
  have hCo := code_of hI hn
  have bw : Below w.heap.size w (w.alloc (.cells #[.slice aP 3 capP] 25)) := by go_grown
  have pP : Blk (w.alloc (.cells #[.slice aP 3 capP] 25)) w.heap.size 25 [.slice aP 3 capP] := blkAt _ _ _ rfl
  go_enter Tryz.func10, Tryz.ntmps10
  go_wp2_with fail
  have hX : w.heap.size < (w.alloc (.cells #[.slice aP 3 capP] 25)).heap.size := pP.lt
  generalize (w.alloc (.cells #[.slice aP 3 capP] 25)) = W1 at *
  have bw1 := bw
  have cP : W1.cell? ⟨w.heap.size, 0, none⟩ = some (.slice aP 3 capP) := pP.cell 0
  refine wp_region_held_drew (S := (fun w' => w'.cell? ⟨w.heap.size, 0, none⟩ = some (.slice aP 3 capP))) (by kernel_rfl) cP (fun hS0 => ?_)
  refine tkm 0 5 (.slice a n cap) ?_
  refine tkm 2 7 (.agg #[.slice aP 3 capP]) ?_
  refine tkr 1 6 (fun K hK => ?_)
  go_simp
  refine (l00Source_any a n cap W1.drew hn).mono ?_
  rintro e w2 ⟨rfl, hS, hb⟩
  replace hS : Src w2 W1.heap.size (.slice a n cap) 0 := hS
  replace hb : Below W1.heap.size W1 w2 := ⟨hb.os, hb.tape, hb.output, hb.size, hb.block⟩
  have hpl : W1.heap.size < w2.heap.size := hS.lt
  have hCd : Code w2 W1.heap.size a n cap := by
    obtain ⟨zs', q1, q2, q3, q4⟩ := hCo
    exact ⟨zs', q1.below (bel_trans bw hb), q2, q3, fun x hx h0 => by have := q4 x hx h0; have := bw.size; omega⟩
  replace bw := bel_trans bw hb
  replace pP := pP.below hb
  have hPr : ∀ W, Below W1.heap.size w2 W → Codes W aP 3 capP rows := fun W h => (hP.below bw1).below (hb.trans h)
  have cP2 : w2.cell? ⟨w.heap.size, 0, none⟩ = some (.slice aP 3 capP) := pP.cell 0
  go_wp2_with fail
  refine hK.out _ _ cP2 (fun hS1 => ?_)
  clear hK
  try simp only [Act.put, tka, tkb, tkc]
  refine tkr 3 8 (fun K hK => ?_)
  go_simp
  refine (schedule_any W1.heap.size 0 a n cap aP capP rows w2 hS hCd (by omega) hok hPr).mono ?_
  rintro e w3 ⟨⟨v, ks, m, hsm, rfl, q, hl, hg⟩, hb3⟩
  have cP3 : w3.cell? ⟨w.heap.size, 0, none⟩ = some (.slice aP 3 capP) := (pP.belowB hb3 (by omega)).cell 0
  have hw2 : w.heap.size ≤ w2.heap.size := bw.size
  replace bw : Below w.heap.size w w3 := bw.trans (hb3.mono (by omega))
  go_wp2_with fail
  refine hK.out _ _ cP3 (fun hS2 => ?_)
  clear hK
  try simp only [Act.put, tka, tkb, tkc]
  refine tkm 4 4 v ?_
  refine wpAnyH_done (by kernel_rfl) ?_ _
  have hG : SchGot (.returned v) w3 w.heap.size rows := ⟨v, ks, m, hsm, rfl, own_lowerB q hw2, hl, hg⟩
  clear hS hCd hPr pP hS0 hS1 hS2 cP2 cP3 q hsm
  go_wp2_with fail
  go_ret
  exact ⟨hG, bw⟩
end Go.Proofs.YtdojjmkpelgcaaaGreatDoor


/-
  What FnRun asks, in plain words.
-/
namespace Go.Proofs.YtdojjmkpelgcaaaGreatDoor
open Go.RowKit
set_option linter.unusedVariables false

theorem goes_run {rows : List (List I3)} {ks : List Int} {m : V4} (hp : progOk rows = true) (h : goesTo rows ks m) (hl : ks.length ≤ 14) : runZ rows ks = m ∧ runC rows ks = 0 ∧ shapeOk m = true := by
  obtain ⟨h1, h2⟩ := h
  have h9 : ¬ 4096 < ks.length := by omega
  unfold runZ runC
  simp only [if_neg h9, if_pos hp]
  refine ⟨h2, h1, ?_⟩
  rw [← h2]
  exact (runI_ok hp ks zeroV [] zero_shape (by simp)).1
end Go.Proofs.YtdojjmkpelgcaaaGreatDoor


/-
  The specification's SameVm: both have their shape, and their keys are one.
-/
namespace Go.Proofs.YtdojjmkpelgcaaaGreatDoor
open Go.RowKit

def sameV (m q : V4) : Bool := shapeOk m && (shapeOk q && ((keyT m).toList == (keyT q).toList))

end Go.Proofs.YtdojjmkpelgcaaaGreatDoor

