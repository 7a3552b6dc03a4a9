/-
  Joined: ScEnd.
-/
import Derived.Test.YtdojjmkpelgcaaaDoorProg
import Derived.Deep.RegionHeld3
import Derived.KernelRfl
import Derived.Tactics
import Derived.WalkKit
import Derived.WalkSpells
import Derived.WalkLawsBesides
import Derived.RegionTactic
import Derived.BigQuiet
import Derived.Deep.QuietTactic
import Derived.Deep.Slices
import Derived.Deep.Strs
import Derived.Deep.Fields
import Derived.ChangeSame
import Derived.Handy
import Derived.OwnWalk
import Derived.ChangeSlices
import Derived.Lib.SmallJoins
import Derived.Shelf.Abstract
import Derived.Laws.BytesArg
import Derived.Deep.RegionLaw
import Derived.Laws.OwnMore
import Derived.Laws.CopyOwn
import Derived.Laws.Tables
import Derived.BigRegion
import Derived.Maps.AppendAt
import Derived.Stop.Asserts
import Derived.Recover
import Derived.IntWalk
import Derived.Deep.MidRow
import Derived.Laws.RangeString
import Derived.Laws.RangeAny
import Derived.Laws.Bits
import Derived.Lib.FieldsP
import Derived.Shelf.SlSortCmp.NoneTotal
import Derived.Shelf.Spec.SlicesGrow
import Derived.Laws.AppendOwnNone
import Derived.Lib.SliceRun
import Derived.Test.YtdojjmkpelgcaaaDoorRows
import Derived.ProofKit
import Derived.OpenShut
import Derived.LaidMore
import Derived.MakeChecks
import Derived.Stop.LaidErr
import Derived.Test.YtdojjmkpelgcaaaDoorK01
import Derived.Test.YtdojjmkpelgcaaaDoorK02
import Derived.Test.YtdojjmkpelgcaaaDoorK04
import Derived.Test.YtdojjmkpelgcaaaDoorK08
import Derived.Test.YtdojjmkpelgcaaaDoorK09
import Derived.Test.YtdojjmkpelgcaaaDoorK11
import Derived.Test.YtdojjmkpelgcaaaDoorK12
import Derived.Test.YtdojjmkpelgcaaaDoorK14
import Derived.Test.YtdojjmkpelgcaaaDoorK16
import Derived.Test.YtdojjmkpelgcaaaDoorK21
import Derived.Test.YtdojjmkpelgcaaaDoorK23
import Derived.Test.YtdojjmkpelgcaaaDoorK25
import Derived.Test.YtdojjmkpelgcaaaDoorK27
import Derived.Test.YtdojjmkpelgcaaaDoorK29
import Derived.Test.YtdojjmkpelgcaaaDoorK43
import Derived.Test.YtdojjmkpelgcaaaDoorK46
import Derived.Test.YtdojjmkpelgcaaaDoorK47
import Derived.Test.YtdojjmkpelgcaaaDoorK48
import Derived.Test.YtdojjmkpelgcaaaDoorK49

/-
  The specification's SameClass; FnExactSameClass.
-/
namespace Go.Proofs.YtdojjmkpelgcaaaDoor
open Go.RowKit
set_option linter.unusedVariables false
set_option linter.unusedSimpArgs false

set_option maxHeartbeats 1000000 in
set_option maxRecDepth 100000 in
theorem specSameClass_is (a : Option Addr) (len cap : Nat) (rows : List (List I3)) (la : Option Addr) (n c : Nat) (ks : List Int) (lb : Option Addr) (n' c' : Nat) (ls : List Int) (w : World) (hC : Codes w a len cap rows) (hL : Ints .i64 w la n c ks) (hM : Ints .i64 w lb n' c' ls) :
    Calls Tryd.prog 26 #[.agg #[.slice a len cap], .slice la n c, .slice lb n' c'] w fun e w' => e = .returned (.tuple #[.bool (scV rows ks ls), .int .i64 (scC rows ks ls)]) ∧ Below w.heap.size w w' := by
  have bw : Below w.heap.size w (w.alloc (.cells #[.slice a len cap] 25)) := by go_grown
  have pP : Blk (w.alloc (.cells #[.slice a len cap] 25)) w.heap.size 25 [.slice a len cap] := blkAt _ _ _ rfl
  unfold scV scC
  rw [hL.1, hM.1]
  by_cases h1 : 4096 < n
  · have h1' : (4096 : Int) < (n : Int) := by omega
    rw [if_pos (Or.inl h1), if_pos (Or.inl h1)]
    clear hC hL hM h1 pP
    go_enter Tryd.func26, Tryd.ntmps26
    go_wp2
    go_ret2
    exact ⟨rfl, bw⟩
  have h1' : ¬ (4096 : Int) < (n : Int) := by omega
  by_cases h2 : 4096 < n'
  · have h2' : (4096 : Int) < (n' : Int) := by omega
    rw [if_pos (Or.inr h2), if_pos (Or.inr h2)]
    clear hC hL hM h1 h2 pP
    go_enter Tryd.func26, Tryd.ntmps26
    go_wp2
    go_ret2
    exact ⟨rfl, bw⟩
  have h2' : ¬ (4096 : Int) < (n' : Int) := by omega
  have h9 : ¬ (4096 < n ∨ 4096 < n') := by omega
  rw [if_neg h9, if_neg h9]
  have kA := fun W (b : Below w.heap.size w W) => l05Ask_is a len cap rows la n c W (hC.below b) h1
  cases hp : progOk rows
  · have e1 : evK rows ks = 1 := by unfold evK; rw [hL.1, if_neg h1, hp]; rfl
    rw [e1]
    rw [hp] at kA
    simp only [Bool.false_eq_true, if_false] at kA
    simp only [show ¬ ((1 : Int) = 0) by decide, if_false]
    clear hp hC hL hM h1 h2 h9 e1
    go_enter Tryd.func26, Tryd.ntmps26
    go_wp2_with fail
    generalize (w.alloc (.cells #[.slice a len cap] 25)) = U at *
    go_wp2_with (first | refine wpList_load_blk rfl 25 _ rfl w.heap.size rfl pP _ Tryd.underlying25 rfl (by kernel_rfl) ?_)
    refine (kA _ bw).mono ?_
    rintro e w1 ⟨rfl, hb⟩
    replace bw := bel_trans bw hb
    clear hb kA pP
    go_wp2
    go_ret2
    exact ⟨rfl, bw⟩
  rw [hp] at kA
  simp only [if_true] at kA
  obtain ⟨rfl, cs, hR⟩ := hC.rowsAt hp
  have hI := evE_three rows ks
  have hE := evE_len9 rows ks
  have hI' := evE_three rows ls
  have hE' := evE_len9 rows ls
  have kE := fun W (b : Below w.heap.size w W) => l05Events_is (cap := cap) (hR.below b) hp (hL.below b) (by omega)
  have kF := fun W (b : Below w.heap.size w W) => l05Events_is (cap := cap) (hR.below b) hp (hM.below b) (by omega)
  have e1 : (if (runI rows zeroV [] ks).2.2 = 0 then evsM rows zeroV ks else []) = evE rows ks := by unfold evE; rw [hL.1, if_neg h1, hp]; rfl
  have e2 : (runI rows zeroV [] ks).2.2 = evK rows ks := by unfold evK; rw [hL.1, if_neg h1, hp]; rfl
  have e3 : (if (runI rows zeroV [] ls).2.2 = 0 then evsM rows zeroV ls else []) = evE rows ls := by unfold evE; rw [hM.1, if_neg h2, hp]; rfl
  have e4 : (runI rows zeroV [] ls).2.2 = evK rows ls := by unfold evK; rw [hM.1, if_neg h2, hp]; rfl
  rw [e1, e2] at kE
  rw [e3, e4] at kF
  clear e1 e2 e3 e4
  generalize evE rows ks = es at *
  generalize evE rows ls = fs at *
  generalize evK rows ks = ck1 at *
  generalize evK rows ls = ck2 at *
  obtain ⟨b9, hb9⟩ : ∃ b9, b9 = (if ck1 = 0 then (if ck2 = 0 then decide (nrmE es = nrmE fs) else false) else false) := ⟨_, rfl⟩
  obtain ⟨c9, hc9⟩ : ∃ c9, c9 = (if ck1 = 0 then ck2 else ck1) := ⟨_, rfl⟩
  have HB : Hid (b9 = (if ck1 = 0 then (if ck2 = 0 then decide (nrmE es = nrmE fs) else false) else false) ∧ c9 = (if ck1 = 0 then ck2 else ck1)) := ⟨hb9, hc9⟩
  rw [← hb9, ← hc9]
  clear hC hL hM h1 h2 h9 hb9 hc9 hp hR
  go_enter Tryd.func26, Tryd.ntmps26
  go_wp2_with fail
  generalize (w.alloc (.cells #[.slice a 3 cap] 25)) = U at *
  go_wp2_with (first | refine wpList_load_blk rfl 25 _ rfl w.heap.size rfl pP _ Tryd.underlying25 rfl (by kernel_rfl) ?_)
  refine (kA _ bw).mono ?_
  rintro e w0 ⟨rfl, hb⟩
  replace bw := bel_trans bw hb
  replace pP := pP.below hb
  clear hb kA
  go_wp2_with (first | refine wpList_load_blk rfl 25 _ rfl w.heap.size rfl pP _ Tryd.underlying25 rfl (by kernel_rfl) ?_)
  refine (kE _ bw).mono ?_
  rintro e w1 ⟨⟨v1, rfl, q1⟩, hb⟩
  replace bw := bel_trans bw hb
  replace pP := pP.below hb
  clear hb kE
  by_cases e1 : ck1 = 0
  · subst e1
    go_wp2_with (first | refine wpList_load_blk rfl 25 _ rfl w.heap.size rfl pP _ Tryd.underlying25 rfl (by kernel_rfl) ?_)
    refine (kF _ bw).mono ?_
    rintro e w2 ⟨⟨v2, rfl, q2⟩, hb⟩
    replace bw := bel_trans bw hb
    replace q1 := owns_below q1 hb
    clear hb kF pP
    by_cases e2 : ck2 = 0
    · subst e2
      obtain ⟨x1, y1, rfl, hv1⟩ := evs_slice q1
      obtain ⟨x2, y2, rfl, hv2⟩ := evs_slice q2
      have kN := l05Normal_is x1 es.length y1 es w2 hv1 hE hI
      have kM := fun W (b : Below w2.heap.size w2 W) => l05Normal_is x2 fs.length y2 fs W (hv2.below b) hE' hI'
      obtain ⟨n1, hn1⟩ : ∃ n1, n1 = es.length := ⟨_, rfl⟩
      obtain ⟨n2, hn2⟩ : ∃ n2, n2 = fs.length := ⟨_, rfl⟩
      rw [← hn1] at kN
      rw [← hn2] at kM
      rw [← hn1, ← hn2]
      clear q1 q2 hn1 hn2 hv1 hv2
      go_wp2_with fail
      refine kN.mono ?_
      rintro e w3 ⟨⟨v3, rfl, q3⟩, hb⟩
      have kM3 := kM _ hb
      replace bw := bel_trans bw hb
      clear hb kN kM
      obtain ⟨s1, t1, rfl⟩ := owns_sliceN q3
      go_wp2_with fail
      refine kM3.mono ?_
      rintro e w4 ⟨⟨v4, rfl, q4⟩, hb⟩
      replace bw := bel_trans bw hb
      replace q3 := owns_below q3 hb
      clear hb kM3
      obtain ⟨s2, t2, rfl⟩ := owns_sliceN q4
      have kS := l05Same_is s1 (nrmE es).length t1 (nrmE es) s2 (nrmE fs).length t2 (nrmE fs) w4 (ints_of_row q3) (ints_of_row q4)
      obtain ⟨m1, hm1⟩ : ∃ m1, m1 = (nrmE es).length := ⟨_, rfl⟩
      obtain ⟨m2, hm2⟩ : ∃ m2, m2 = (nrmE fs).length := ⟨_, rfl⟩
      rw [← hm1, ← hm2] at kS
      rw [← hm1, ← hm2]
      clear q3 q4 hm1 hm2
      go_wp2_with fail
      refine kS.mono ?_
      rintro e w5 ⟨rfl, d, rfl⟩
      clear kS
      go_wp2
      go_ret2
      rw [HB.out.1, HB.out.2]
      exact ⟨rfl, bel_trans bw (below_dN d)⟩
    · have hne : (ck2 != 0) = true := by simp [e2]
      have HB2 : Hid (b9 = false ∧ c9 = ck2) := by rw [Hid, HB.out.1, HB.out.2]; simp [e2]
      clear q1 q2 e2
      go_wp2
      go_ret2
      rw [HB2.out.1, HB2.out.2]
      exact ⟨rfl, bw⟩
  · have hne : (ck1 != 0) = true := by simp [e1]
    have HB2 : Hid (b9 = false ∧ c9 = ck1) := by rw [Hid, HB.out.1, HB.out.2]; simp [e1]
    clear q1 e1 kF pP
    go_wp2
    go_ret2
    rw [HB2.out.1, HB2.out.2]
    exact ⟨rfl, bw⟩

theorem fnExactSameClass_walk (a0 : Option Addr) (n0 c0 : Nat) (r0 : List (List I3)) (a1 : Option Addr) (n1 c1 : Nat) (z1 : List Int) (a2 : Option Addr) (n2 c2 : Nat) (z2 : List Int) (w : World) (h0 : Codes w a0 n0 c0 r0) (h1 : IsRow .i64 w a1 n1 c1 z1) (h2 : IsRow .i64 w a2 n2 c2 z2) (hG : VmShape w) :
    Calls Tryd.prog 5 #[.agg #[.slice a0 n0 c0], .slice a1 n1 c1, .slice a2 n2 c2] w fun e w' => e = .returned (.bool true) ∧ Below w.heap.size w w' :=
  fnExactSameClass_of a0 n0 c0 r0 a1 n1 c1 a2 n2 c2 (z1.take n1) (z2.take n2) (scV r0 (z1.take n1) (z2.take n2)) (scC r0 (z1.take n1) (z2.take n2)) w h0 (Ints.of_isRow h1) (Ints.of_isRow h2) hG
    (fun a n c la ln lc lb mn mc w hC hL hM => specSameClass_is a n c r0 la ln lc _ lb mn mc _ w hC hL hM)
    (fun a n c la ln lc lb mn mc w hC hL hM hV => implSameClass_is a n c r0 la ln lc _ lb mn mc _ w hC hV hL hM)

theorem fnExactSameClass_laid {W : World} (h : laidMetH Tryd.prog Rows.fnExactSameClassRow.laid W) : VmShape W := vmShape_of_laid rfl h
theorem fnExactSameClass_door_met (os : Os) (args : Array Value) : laidMetH Tryd.prog Rows.fnExactSameClassRow.laid ((World.doorLaid Tryd.prog 400 os).forCall (fun _ _ => 0) ⟨#[], args, []⟩).memory :=
  laidMetH_of_parts3 (fuel := 8) (laidMet_of_run' 8 (by kernel_rfl) (by kernel_rfl)) (by kernel_rfl) (by kernel_rfl)
end Go.Proofs.YtdojjmkpelgcaaaDoor

