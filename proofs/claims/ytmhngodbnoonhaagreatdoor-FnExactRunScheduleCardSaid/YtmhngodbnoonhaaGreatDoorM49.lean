/-
  Joined: RsS, VmLaid, RsEnd, Vars.
-/
import Derived.Test.YtmhngodbnoonhaaGreatDoorProg
import Derived.WalkKit
import Derived.WalkSpells
import Derived.WalkLawsBesides
import Derived.RegionTactic
import Derived.BigQuiet
import Derived.Deep.QuietTactic
import Derived.Deep.Slices
import Derived.Deep.Strs
import Derived.Deep.Fields
import Derived.ChangeSame
import Derived.ChangeSlices
import Derived.Lib.SmallJoins
import Derived.Handy
import Derived.Deep.RegionHeld3
import Derived.OwnWalk
import Derived.Shelf.Abstract
import Derived.Laws.BytesArg
import Derived.Deep.RegionLaw
import Derived.Laws.OwnMore
import Derived.Laws.CopyOwn
import Derived.Laws.Tables
import Derived.BigRegion
import Derived.Maps.AppendAt
import Derived.Stop.Asserts
import Derived.Recover
import Derived.Laws.RangeString
import Derived.Laws.RangeAny
import Derived.Laws.Bits
import Derived.Lib.FieldsP
import Derived.Shelf.SlSortCmp.NoneTotal
import Derived.Shelf.Spec.SlicesGrow
import Derived.Laws.AppendOwnNone
import Derived.Lib.SliceRun
import Derived.Test.YtmhngodbnoonhaaGreatDoorRows
import Derived.ProofKit
import Derived.OpenShut
import Derived.LaidMore
import Derived.MakeChecks
import Derived.Stop.LaidErr
import Derived.WalkSmall
import Derived.ChangeOld
import Derived.Test.YtmhngodbnoonhaaGreatDoorM01
import Derived.Test.YtmhngodbnoonhaaGreatDoorM03
import Derived.Test.YtmhngodbnoonhaaGreatDoorM04
import Derived.Test.YtmhngodbnoonhaaGreatDoorM05
import Derived.Test.YtmhngodbnoonhaaGreatDoorM07
import Derived.Test.YtmhngodbnoonhaaGreatDoorM09
import Derived.Test.YtmhngodbnoonhaaGreatDoorM10
import Derived.Test.YtmhngodbnoonhaaGreatDoorM11
import Derived.Test.YtmhngodbnoonhaaGreatDoorM13
import Derived.Test.YtmhngodbnoonhaaGreatDoorM14
import Derived.Test.YtmhngodbnoonhaaGreatDoorM15
import Derived.Test.YtmhngodbnoonhaaGreatDoorM16
import Derived.Test.YtmhngodbnoonhaaGreatDoorM20
import Derived.Test.YtmhngodbnoonhaaGreatDoorM30
import Derived.Test.YtmhngodbnoonhaaGreatDoorM32
import Derived.Test.YtmhngodbnoonhaaGreatDoorM38
import Derived.Test.YtmhngodbnoonhaaGreatDoorM40
import Derived.Test.YtmhngodbnoonhaaGreatDoorM44
import Derived.Test.YtmhngodbnoonhaaGreatDoorM46
import Derived.Test.YtmhngodbnoonhaaGreatDoorM47
import Derived.Test.YtmhngodbnoonhaaGreatDoorM48

/-
  The specification's RunSchedule.
-/
namespace Go.Proofs.YtmhngodbnoonhaaGreatDoor
open Go.RowKit
set_option linter.unusedVariables false
set_option linter.unusedSimpArgs false

theorem runS_runJ (rows : List (List I3)) (ks : List Int) : runS rows zeroV [] ks = ((runI rows zeroV [] ks).1, mergeB (runI rows zeroV [] ks).2.1 (deadM rows (runI rows zeroV [] ks).1), (runI rows zeroV [] ks).2.2) := by
  have h0 : ([] : List I3) = mergeB [] (deadM rows zeroV) := by unfold deadM; rw [stuck_zero]; rfl
  obtain ⟨h1, h2, h3⟩ := run_same (rows := rows) ks zeroV [] [] h0
  rw [← h1, ← h2] at *
  exact Prod.ext h1 (Prod.ext h3 rfl)
theorem runF_okJ (rows : List (List I3)) (ks : List Int) : (∀ x ∈ runF rows ks, okB x = true) ∧ (runF rows ks).length ≤ 5000 := by
  unfold runF
  split
  · simp
  · split
    · rename_i h1 h2
      have a := runI_ok h2 ks zeroV [] zero_shape (by simp)
      have b := runI_len (rows := rows) ks zeroV []
      have c := mergeB_len (runI rows zeroV [] ks).2.1 (deadM rows (runI rows zeroV [] ks).1)
      have d : (deadM rows (runI rows zeroV [] ks).1).length ≤ 1 := by unfold deadM; split <;> simp
      refine ⟨mergeB_ok a.2 (deadM_ok _ _), ?_⟩
      simp at b
      omega
    · simp
theorem runZ_ok (rows : List (List I3)) (ks : List Int) : V4.fits (runZ rows ks) ∧ ((runZ rows ks).1.length ≤ 1000 ∧ (runZ rows ks).2.1.length ≤ 1000 ∧ (runZ rows ks).2.2.1.length ≤ 1000 ∧ (runZ rows ks).2.2.2.length ≤ 1000) := by
  unfold runZ
  split
  · exact ⟨⟨by simp, by simp, by simp, by simp⟩, by simp⟩
  · split
    · rename_i h1 h2
      have a := (runI_ok h2 ks zeroV [] zero_shape (by simp)).1
      obtain ⟨l0, l1, l2, l3, _⟩ := shape_parts a
      exact ⟨(shape_fits9 a).1, by omega, by omega, by omega, by omega⟩
    · exact ⟨⟨by simp, by simp, by simp, by simp⟩, by simp⟩

set_option maxHeartbeats 800000 in
set_option maxRecDepth 100000 in
theorem specRunSchedule_is (a : Option Addr) (len cap : Nat) (rows : List (List I3)) (la : Option Addr) (n c : Nat) (ks : List Int) (w : World) (hC : Codes w a len cap rows) (hL : Ints .i64 w la n c ks) :
    Calls Tryz.prog 19 #[.agg #[.slice a len cap], .slice la n c] w fun e w' => RunGot e w' w.heap.size (runZ rows ks) (runF rows ks) (runC rows ks) ∧ Below w.heap.size w w' := by
  unfold runZ runF runC
  rw [hL.1]
  have bw : Below w.heap.size w ((w.alloc (.cells #[.slice a len cap] 25)).alloc (.cells #[.slice none 0 0, .slice none 0 0, .slice none 0 0, .slice none 0 0] 33)) := by go_grown
  have pP : Blk ((w.alloc (.cells #[.slice a len cap] 25)).alloc (.cells #[.slice none 0 0, .slice none 0 0, .slice none 0 0, .slice none 0 0] 33)) w.heap.size 25 [.slice a len cap] := blkOld _ (blkAt _ _ _ rfl)
  have pR : Blk ((w.alloc (.cells #[.slice a len cap] 25)).alloc (.cells #[.slice none 0 0, .slice none 0 0, .slice none 0 0, .slice none 0 0] 33)) (w.heap.size + 1) 33 [.slice none 0 0, .slice none 0 0, .slice none 0 0, .slice none 0 0] := blkAt _ _ _ (by simp)
  have hsU : w.heap.size + 1 < ((w.alloc (.cells #[.slice a len cap] 25)).alloc (.cells #[.slice none 0 0, .slice none 0 0, .slice none 0 0, .slice none 0 0] 33)).heap.size := pR.lt
  by_cases hn : 4096 < n
  · have hn' : (4096 : Int) < (n : Int) := by omega
    simp only [if_pos hn]
    clear hC hL hn pP
    go_enter Tryz.func19, Tryz.ntmps19
    go_wp2_with fail
    go_returns
    exact ⟨RunGot.mk9 ((none, 0, 0), (none, 0, 0), (none, 0, 0), (none, 0, 0)) _ rfl (own_nilV _ _) (by simpa [flat] using own_emptyB ((w.alloc (.cells #[.slice a len cap] 25)).alloc (.cells #[.slice none 0 0, .slice none 0 0, .slice none 0 0, .slice none 0 0] 33)) 95 3 w.heap.size (by simp; omega)), bel_trans bw (by go_grown)⟩
  simp only [if_neg hn]
  have hn' : ¬ (4096 : Int) < (n : Int) := by omega
  have kP := fun W (b : Below w.heap.size w W) => specProgramOK_is a len cap rows W (hC.below b)
  cases hp : progOk rows
  · rw [hp] at kP
    simp only [Bool.false_eq_true, if_false]
    clear hp hC hL hn
    go_enter Tryz.func19, Tryz.ntmps19
    go_wp2_with fail
    generalize ((w.alloc (.cells #[.slice a len cap] 25)).alloc (.cells #[.slice none 0 0, .slice none 0 0, .slice none 0 0, .slice none 0 0] 33)) = U at *
    go_wp2_with (first | refine wpList_load_blk rfl 25 _ rfl w.heap.size rfl pP _ Tryz.underlying25 rfl (by kernel_rfl) ?_)
    refine (kP _ bw).mono ?_
    rintro e w1 ⟨rfl, hb⟩
    replace bw := bel_trans bw hb
    replace pR := pR.below hb
    have ha : Below w1.heap.size w1 (w1.alloc (.cells #[] 95)) := by go_grown
    have q := own_emptyB w1 95 3 w.heap.size bw.size
    replace bw := bel_trans bw ha
    replace pR := pR.below ha
    clear hb kP pP ha
    go_wp2_with (first | refine wpList_store_blk rfl 33 _ _ rfl (w.heap.size + 1) [.slice none 0 0, .slice none 0 0, .slice none 0 0, .slice none 0 0] rfl rfl pR (by kernel_rfl) rfl rfl ?_)
    intro U2 pR2 g2
    have bz := bw.grown g2 bw.size (fun k e => by cases e; omega)
    have q2 := q.kept g2 (own_apart_blk q pR (by decide))
    clear bw g2 pR q
    go_wp2_with fail
    refine bodyPost_ret (results_blk3 Tryz.results19 _ _ _ _ _ _ rfl pR2.out Tryz.underlying33 rfl (by kernel_rfl)) rfl ?_
    exact ⟨RunGot.mk9 ((none, 0, 0), (none, 0, 0), (none, 0, 0), (none, 0, 0)) _ rfl (own_nilV _ _) q2, bz⟩
  · rw [hp] at kP
    simp only [if_true]
    obtain ⟨rfl, cs, hR⟩ := hC.rowsAt hp
    have kR := fun (W : World) (b : Below w.heap.size w W) => l04Run_is (cap := cap) (hR.below b) hp (hL.below b) (by omega)
    rw [runS_runJ] at kR
    simp only at kR
    generalize mergeB (runI rows zeroV [] ks).2.1 (deadM rows (runI rows zeroV [] ks).1) = fs at *
    generalize (runI rows zeroV [] ks).1 = z at *
    generalize (runI rows zeroV [] ks).2.2 = cd at *
    clear hp hC hL hn hR
    go_enter Tryz.func19, Tryz.ntmps19
    go_wp2_with fail
    generalize ((w.alloc (.cells #[.slice a 3 cap] 25)).alloc (.cells #[.slice none 0 0, .slice none 0 0, .slice none 0 0, .slice none 0 0] 33)) = U at *
    go_wp2_with (first | refine wpList_load_blk rfl 25 _ rfl w.heap.size rfl pP _ Tryz.underlying25 rfl (by kernel_rfl) ?_)
    refine (kP _ bw).mono ?_
    rintro e w1 ⟨rfl, hb⟩
    replace bw := bel_trans bw hb
    replace pP := pP.below hb
    replace pR := pR.below hb
    clear hb kP
    go_wp2_with (first | refine wpList_load_blk rfl 25 _ rfl w.heap.size rfl pP _ Tryz.underlying25 rfl (by kernel_rfl) ?_)
    refine (kR _ bw).mono ?_
    rintro e w2 ⟨⟨⟨⟨t0a, t0n, t0c⟩, ⟨t1a, t1n, t1c⟩, ⟨t2a, t2n, t2c⟩, ⟨t3a, t3n, t3c⟩⟩, v, rfl, hO, q⟩, hb⟩
    have ut : S4.val ((t0a, t0n, t0c), (t1a, t1n, t1c), (t2a, t2n, t2c), (t3a, t3n, t3c)) = .agg #[.slice t0a t0n t0c, .slice t1a t1n t1c, .slice t2a t2n t2c, .slice t3a t3n t3c] := rfl
    rw [ut]
    replace hO := hO.lowerB (B' := w.heap.size) bw.size
    replace q := own_lowerB (B' := w.heap.size) q bw.size
    replace bw := bel_trans bw hb
    replace pR := pR.below hb
    clear hb kR pP ut
    go_wp2_with (first | refine wpList_store_blk rfl 33 _ _ rfl (w.heap.size + 1) [.slice t0a t0n t0c, .slice t1a t1n t1c, .slice t2a t2n t2c, .slice t3a t3n t3c] rfl rfl pR (by kernel_rfl) rfl rfl ?_)
    intro U2 pR2 g2
    have bz := bw.grown g2 bw.size (fun k e => by cases e; omega)
    have q2 := q.kept g2 (own_apart_blk q pR (by decide))
    have hO2 := hO.kept9 g2 pR (by decide)
    clear bw g2 pR q hO
    go_wp2_with fail
    refine bodyPost_ret (results_blk3 Tryz.results19 _ _ _ _ _ _ rfl pR2.out Tryz.underlying33 rfl (by kernel_rfl)) rfl ?_
    exact ⟨RunGot.mk9 ((t0a, t0n, t0c), (t1a, t1n, t1c), (t2a, t2n, t2c), (t3a, t3n, t3c)) _ rfl hO2 q2, bz⟩
end Go.Proofs.YtmhngodbnoonhaaGreatDoor


/-
  What the condition on the table vmShape gives the walks.
-/
namespace Go.Proofs.YtmhngodbnoonhaaGreatDoor
open Go.RowKit Go.ChangeShapes

theorem gVmShape : Tryz.prog.globalNamed "loop.example/g00632/impl.vmShape" = some 0 := by kernel_rfl
theorem tVmShape : (Tryz.prog.globals[0]?).map (·.type) = some 123 := by kernel_rfl

section
variable {H : Type} {enc : TypeId × Value → H} {w : World} {base : Nat} {spare : Nat → Bool} {held : Bool}
set_option maxRecDepth 100000 in
theorem part_cells {fuel : Nat} {cs : List Value} {a b : Int} {p : List MemPlace} (h : DataW.trod enc Tryz.prog w base spare held fuel 122 cs = some (.agg [.lit (.int .i64 a), .lit (.int .i64 b)], p)) : cs = [.int .i64 a, .int .i64 b] := by
  obtain ⟨y0, y1, n, hx, hl, h0, h1⟩ := trod_struct2 Tryz.underlying122 h
  have hl2 : cs.length = 2 := hl.trans (by kernel_rfl)
  have hk : Tryz.prog.cellsOf 3 = 1 := by kernel_rfl
  match cs, hl2 with
  | [c0, c1], _ =>
    simp only [hk] at h0 h1
    obtain ⟨z0, e0, hy0, _⟩ := DataW.trod_int Tryz.underlying3 h0
    obtain ⟨z1, e1, hy1, _⟩ := DataW.trod_int Tryz.underlying3 h1
    simp at e0 e1
    subst hy0 hy1 e0 e1
    simp at hx
    simp [hx]
set_option maxRecDepth 100000 in
theorem shape_cells {fuel : Nat} {cs : List Value} {p : List MemPlace} (h : DataW.trod enc Tryz.prog w base spare held fuel 123 cs = some (Rows.laid_loop_example_g00632_impl_vmShape, p)) : cs = [3, 6, 4, 9, 2, 3, 6, 9].map (Value.int .i64) := by
  obtain ⟨xs, m, _, hx, hl, hn, hi⟩ := DataW.trod_array Tryz.underlying123 h
  have hk : Tryz.prog.cellsOf 122 = 2 := by kernel_rfl
  have hl8 : cs.length = 8 := hl.trans (by kernel_rfl)
  rw [hk] at hi
  match xs, hn with
  | [⟨x0, p0⟩, ⟨x1, p1⟩, ⟨x2, p2⟩, ⟨x3, p3⟩], _ =>
    unfold Rows.laid_loop_example_g00632_impl_vmShape at hx
    simp at hx
    obtain ⟨⟨rfl, rfl, rfl, rfl⟩, _⟩ := hx
    match cs, hl8 with
    | [c0, c1, c2, c3, c4, c5, c6, c7], _ =>
      have g0 := part_cells (hi 0 (by decide))
      have g1 := part_cells (hi 1 (by decide))
      have g2 := part_cells (hi 2 (by decide))
      have g3 := part_cells (hi 3 (by decide))
      simp at g0 g1 g2 g3
      simp [g0, g1, g2, g3]
end

set_option maxRecDepth 100000 in
theorem vmShape_of_laid {W : World} {p : List (String × DataW Unit)} (hp : p = [("loop.example/g00632/impl.vmShape", Rows.laid_loop_example_g00632_impl_vmShape)]) (h : laidMetH Tryz.prog p W) : VmShape W := by
  subst hp
  rw [MakeChecks.laidMetH_plain _ _ _ (by kernel_rfl)] at h
  obtain ⟨ps, ⟨g0, t0, cs0, f0, p0, q0, hg0, ht0, hv0, hd0, _, _⟩, _, _⟩ := h
  obtain rfl := Option.some.inj (gVmShape.symm.trans hg0)
  obtain rfl := Option.some.inj (tVmShape.symm.trans ht0)
  have hcs := shape_cells hd0
  unfold World.var? at hv0
  simp only [gVmShape, Option.bind_some] at hv0
  cases hh : W.heap[0]? with
  | none => rw [hh] at hv0; cases hv0
  | some o =>
    rw [hh] at hv0
    cases o with
    | cells cs t fr =>
      simp only [Option.some.injEq] at hv0
      subst hv0
      intro i v hi
      rw [← hcs] at hi
      simp only [World.cell?, hh]
      simpa using hi
    | _ => cases hv0
end Go.Proofs.YtmhngodbnoonhaaGreatDoor


/-
  FnExactRunSchedule: the walk over what both answer, and what the row's condition on vmShape gives it.
-/
namespace Go.Proofs.YtmhngodbnoonhaaGreatDoor
open Go.RowKit

theorem fnExactRunSchedule_walk (a0 : Option Addr) (n0 c0 : Nat) (r0 : List (List I3)) (a1 : Option Addr) (n1 c1 : Nat) (z1 : List Int) (w : World) (h0 : Codes w a0 n0 c0 r0) (h1 : IsRow .i64 w a1 n1 c1 z1) (hG : VmShape w) :
    Calls Tryz.prog 5 #[.agg #[.slice a0 n0 c0], .slice a1 n1 c1] w fun e w' => e = .returned (.bool true) ∧ Below w.heap.size w w' :=
  fnExactRunSchedule_of a0 n0 c0 r0 a1 n1 c1 (z1.take n1) (runZ r0 (z1.take n1)) (runZ_ok _ _).1 (runZ_ok _ _).2 (runF r0 (z1.take n1)) (fun x hx => okB_fitsQ ((runF_okJ _ _).1 x hx)) (by have := (runF_okJ r0 (z1.take n1)).2; omega) (runC r0 (z1.take n1)) w h0 (Ints.of_isRow h1) hG
    (fun a n c la ln lc w hC hL => specRunSchedule_is a n c r0 la ln lc _ w hC hL)
    (fun a n c la ln lc w hC hL hV => implRunSchedule_is a n c r0 la ln lc _ w hC hV hL)

theorem fnExactRunSchedule_laid {W : World} (h : laidMetH Tryz.prog Rows.fnExactRunScheduleRow.laid W) : VmShape W := vmShape_of_laid rfl h
theorem fnExactRunSchedule_door_met (os : Os) (args : Array Value) : laidMetH Tryz.prog Rows.fnExactRunScheduleRow.laid ((World.doorLaid Tryz.prog 400 os).forCall (fun _ _ => 0) ⟨#[], args, []⟩).memory :=
  laidMetH_of_parts3 (fuel := 8) (laidMet_of_run' 8 (by kernel_rfl) (by kernel_rfl)) (by kernel_rfl) (by kernel_rfl)
end Go.Proofs.YtmhngodbnoonhaaGreatDoor


/-
  The named package-level variables read behind a call as they read before it, where nothing that was there has turned.
-/
namespace Go.Proofs.YtmhngodbnoonhaaGreatDoor
open Go.RowKit

def varsFit (P : Program) (ns : List String) : Bool := ns.all fun n =>
  match P.globalNamed n with
  | some g => match (P.globals[g]?).map (·.type) with
    | some t => P.readableRec t && decide (t < P.types.size)
    | none => false
  | none => false

theorem var?_lt {P : Program} {W : World} {n : String} {g : Nat} {cs : Array Value} (hg : P.globalNamed n = some g) (hv : W.var? P n = some cs) : g < W.heap.size := by
  rcases Nat.lt_or_ge g W.heap.size with h | h
  · exact h
  · unfold World.var? at hv
    simp [hg, Array.getElem?_eq_none h] at hv

theorem vars_below {H : Type} {enc : TypeId × Value → H} {P : Program} {W W' : World} (hl : laidOutB P = true) (bel : Below W.heap.size W W') :
    ∀ {ns : List String} {gs : List (DataW H)} {ps : List MemPlace}, varsFit P ns = true → DataW.TrodVars enc P W (fun _ => true) ns gs ps → DataW.TrodVars enc P W' (fun b => decide (b < W.heap.size)) ns gs ps
  | [], [], ps, _, h => h
  | [], _ :: _, _, _, h => by cases h
  | _ :: _, [], _, _, h => by cases h
  | n :: ns, d :: ds, ps, hf, h => by
    obtain ⟨g, t, cs, fuel, p, q, hg, ht, hv, hd, hr, e⟩ := h
    simp only [varsFit, List.all_cons, Bool.and_eq_true] at hf
    obtain ⟨hf1, hf2⟩ := hf
    rw [hg] at hf1
    simp only [ht, Bool.and_eq_true, decide_eq_true_eq] at hf1
    obtain ⟨fuel', hd'⟩ := Below.trod hl hf1.1 hf1.2 (v := .agg cs) (⟨fuel, by simpa [Value.cells] using hd⟩ : DataW.Trod enc P W 0 (fun _ => true) true t (.agg cs) d p) bel (DataW.trod_lt fuel _ _ _ hd)
    exact ⟨g, t, cs, fuel', p, q, hg, ht, var?_below bel hg (var?_lt hg hv) hv, by simpa [Value.cells] using hd', vars_below hl bel hf2 hr, e⟩

theorem vars_len {H : Type} {enc : TypeId × Value → H} {P : Program} {W : World} {spare : Nat → Bool} : ∀ {ns : List String} {gs : List (DataW H)} {ps : List MemPlace}, DataW.TrodVars enc P W spare ns gs ps → gs.length = ns.length
  | [], [], _, _ => rfl
  | [], _ :: _, _, h => by cases h
  | _ :: _, [], _, h => by cases h
  | _ :: _, _ :: _, _, h => by
    obtain ⟨_, _, _, _, _, _, _, _, _, _, hr, _⟩ := h
    simp [vars_len hr]
end Go.Proofs.YtmhngodbnoonhaaGreatDoor

