/-
  Joined: VmLaid, AbgE, Vars.
-/
import Derived.Test.YtcdpcfnlflpjnaaGreatDoorProg
import Derived.Deep.RegionHeld3
import Derived.KernelRfl
import Derived.Tactics
import Derived.WalkKit
import Derived.WalkSpells
import Derived.WalkLawsBesides
import Derived.RegionTactic
import Derived.BigQuiet
import Derived.Deep.QuietTactic
import Derived.Deep.Slices
import Derived.Deep.Strs
import Derived.Deep.Fields
import Derived.ChangeSame
import Derived.Handy
import Derived.OwnWalk
import Derived.ChangeSlices
import Derived.Lib.SmallJoins
import Derived.Shelf.Abstract
import Derived.Laws.BytesArg
import Derived.Deep.RegionLaw
import Derived.Laws.OwnMore
import Derived.Test.YtcdpcfnlflpjnaaGreatDoorRows
import Derived.ProofKit
import Derived.OpenShut
import Derived.LaidMore
import Derived.MakeChecks
import Derived.Stop.LaidErr
import Derived.Laws.CopyOwn
import Derived.Laws.Tables
import Derived.BigRegion
import Derived.Maps.AppendAt
import Derived.Stop.Asserts
import Derived.Recover
import Derived.Laws.RangeString
import Derived.Laws.RangeAny
import Derived.Laws.Bits
import Derived.Lib.FieldsP
import Derived.Shelf.SlSortCmp.NoneTotal
import Derived.Shelf.Spec.SlicesGrow
import Derived.Laws.AppendOwnNone
import Derived.Lib.SliceRun
import Derived.Deep.MidRow
import Derived.Maps.OwnSet
import Derived.Carry
import Derived.Deep.CutRange
import Derived.WalkSmall
import Derived.ChangeOld
import Derived.Test.YtcdpcfnlflpjnaaGreatDoorK01
import Derived.Test.YtcdpcfnlflpjnaaGreatDoorK02
import Derived.Test.YtcdpcfnlflpjnaaGreatDoorK05
import Derived.Test.YtcdpcfnlflpjnaaGreatDoorK08
import Derived.Test.YtcdpcfnlflpjnaaGreatDoorK12
import Derived.Test.YtcdpcfnlflpjnaaGreatDoorK24
import Derived.Test.YtcdpcfnlflpjnaaGreatDoorK25
import Derived.Test.YtcdpcfnlflpjnaaGreatDoorK35
import Derived.Test.YtcdpcfnlflpjnaaGreatDoorK37
import Derived.Test.YtcdpcfnlflpjnaaGreatDoorK45
import Derived.Test.YtcdpcfnlflpjnaaGreatDoorK46
import Derived.Test.YtcdpcfnlflpjnaaGreatDoorK47
import Derived.Test.YtcdpcfnlflpjnaaGreatDoorK48

/-
  What the condition on the table vmShape gives the walks.
-/
namespace Go.Proofs.YtcdpcfnlflpjnaaGreatDoor
open Go.RowKit Go.ChangeShapes

theorem gVmShape : Tryz.prog.globalNamed "loop.example/g00632/impl.vmShape" = some 0 := by kernel_rfl
theorem tVmShape : (Tryz.prog.globals[0]?).map (·.type) = some 139 := by kernel_rfl

section
variable {H : Type} {enc : TypeId × Value → H} {w : World} {base : Nat} {spare : Nat → Bool} {held : Bool}
set_option maxRecDepth 100000 in
theorem part_cells {fuel : Nat} {cs : List Value} {a b : Int} {p : List MemPlace} (h : DataW.trod enc Tryz.prog w base spare held fuel 138 cs = some (.agg [.lit (.int .i64 a), .lit (.int .i64 b)], p)) : cs = [.int .i64 a, .int .i64 b] := by
  obtain ⟨y0, y1, n, hx, hl, h0, h1⟩ := trod_struct2 Tryz.underlying138 h
  have hl2 : cs.length = 2 := hl.trans (by kernel_rfl)
  have hk : Tryz.prog.cellsOf 3 = 1 := by kernel_rfl
  match cs, hl2 with
  | [c0, c1], _ =>
    simp only [hk] at h0 h1
    obtain ⟨z0, e0, hy0, _⟩ := DataW.trod_int Tryz.underlying3 h0
    obtain ⟨z1, e1, hy1, _⟩ := DataW.trod_int Tryz.underlying3 h1
    simp at e0 e1
    subst hy0 hy1 e0 e1
    simp at hx
    simp [hx]
set_option maxRecDepth 100000 in
theorem shape_cells {fuel : Nat} {cs : List Value} {p : List MemPlace} (h : DataW.trod enc Tryz.prog w base spare held fuel 139 cs = some (Rows.laid_loop_example_g00632_impl_vmShape, p)) : cs = [3, 6, 4, 9, 2, 3, 6, 9].map (Value.int .i64) := by
  obtain ⟨xs, m, _, hx, hl, hn, hi⟩ := DataW.trod_array Tryz.underlying139 h
  have hk : Tryz.prog.cellsOf 138 = 2 := by kernel_rfl
  have hl8 : cs.length = 8 := hl.trans (by kernel_rfl)
  rw [hk] at hi
  match xs, hn with
  | [⟨x0, p0⟩, ⟨x1, p1⟩, ⟨x2, p2⟩, ⟨x3, p3⟩], _ =>
    unfold Rows.laid_loop_example_g00632_impl_vmShape at hx
    simp at hx
    obtain ⟨⟨rfl, rfl, rfl, rfl⟩, _⟩ := hx
    match cs, hl8 with
    | [c0, c1, c2, c3, c4, c5, c6, c7], _ =>
      have g0 := part_cells (hi 0 (by decide))
      have g1 := part_cells (hi 1 (by decide))
      have g2 := part_cells (hi 2 (by decide))
      have g3 := part_cells (hi 3 (by decide))
      simp at g0 g1 g2 g3
      simp [g0, g1, g2, g3]
end

set_option maxRecDepth 100000 in
theorem vmShape_of_laid {W : World} {p : List (String × DataW Unit)} (hp : p = [("loop.example/g00632/impl.vmShape", Rows.laid_loop_example_g00632_impl_vmShape)]) (h : laidMetH Tryz.prog p W) : VmShape W := by
  subst hp
  rw [MakeChecks.laidMetH_plain _ _ _ (by kernel_rfl)] at h
  obtain ⟨ps, ⟨g0, t0, cs0, f0, p0, q0, hg0, ht0, hv0, hd0, _, _⟩, _, _⟩ := h
  obtain rfl := Option.some.inj (gVmShape.symm.trans hg0)
  obtain rfl := Option.some.inj (tVmShape.symm.trans ht0)
  have hcs := shape_cells hd0
  unfold World.var? at hv0
  simp only [gVmShape, Option.bind_some] at hv0
  cases hh : W.heap[0]? with
  | none => rw [hh] at hv0; cases hv0
  | some o =>
    rw [hh] at hv0
    cases o with
    | cells cs t fr =>
      simp only [Option.some.injEq] at hv0
      subst hv0
      intro i v hi
      rw [← hcs] at hi
      simp only [World.cell?, hh]
      simpa using hi
    | _ => cases hv0
end Go.Proofs.YtcdpcfnlflpjnaaGreatDoor


/-
  FnExactAllBugs: the walk over what both answer, and what the row's condition on vmShape gives it.
-/
namespace Go.Proofs.YtcdpcfnlflpjnaaGreatDoor
open Go.RowKit
set_option linter.unusedVariables false

theorem allI_ok {rows : List (List I3)} {S : List (Rec6 V4)} (hp : progOk rows = true) (hS : Shaped S) : ∀ x ∈ allI rows S, okB x = true := fun x hx => by
  obtain ⟨r, hr, hx⟩ := mem_allI.1 hx
  unfold bugsI at hx
  split at hx
  · simp at hx; subst hx; rfl
  · obtain ⟨k, hk, hx⟩ := List.mem_flatMap.1 hx
    exact ownM_ok hp (hS r hr) (enab_halt hk) x hx
theorem flat_len6 {f : Rec6 V4 → List I3} (hf : ∀ r, (f r).length ≤ 3) : ∀ S : List (Rec6 V4), (S.flatMap f).length ≤ 3 * S.length
  | [] => by simp
  | r :: S => by
    have := flat_len6 hf S
    have := hf r
    rw [List.flatMap_cons, List.length_append, List.length_cons]
    omega
theorem bugsO_ok (rows : List (List I3)) : (∀ x ∈ bugsO rows, I3.fits x) ∧ (bugsO rows).length ≤ 100000 := by
  unfold bugsO
  split
  · rename_i h
    obtain ⟨hp, hf⟩ := code_parts h
    refine ⟨fun x hx => okB_fitsQ (allI_ok hp (fullS_shaped hp) x hx), ?_⟩
    unfold allI
    have h1 := mergeB_len ((fullS rows).flatMap fun r => bugsI rows r.1) []
    have h2 := flat_len6 (f := fun r => bugsI rows r.1) (fun r => bugsI_len6 rows r.1) (fullS rows)
    simp only [List.length_nil] at h1
    omega
  · exact ⟨fun x hx => by simp at hx, by simp⟩
theorem fnExactAllBugs_walk (a0 : Option Addr) (n0 c0 : Nat) (r0 : List (List I3)) (w : World) (h0 : Codes w a0 n0 c0 r0) (hG : VmShape w) :
    Calls Tryz.prog 5 #[.agg #[.slice a0 n0 c0]] w fun e w' => e = .returned (.bool true) ∧ Below w.heap.size w w' :=
  fnExactAllBugs_of a0 n0 c0 r0 (bugsO r0) (bugsO_ok r0).1 (bugsO_ok r0).2 (codeF r0) w h0 hG (fun a n c w hC => specAllBugs_is a n c r0 w hC) (fun a n c w hC hV => implAllBugs_is a n c r0 w hC hV)
theorem fnExactAllBugs_laid {W : World} (h : laidMetH Tryz.prog Rows.fnExactAllBugsRow.laid W) : VmShape W := vmShape_of_laid rfl h
theorem fnExactAllBugs_door_met (os : Os) (args : Array Value) : laidMetH Tryz.prog Rows.fnExactAllBugsRow.laid ((World.doorLaid Tryz.prog 400 os).forCall (fun _ _ => 0) ⟨#[], args, []⟩).memory :=
  laidMetH_of_parts3 (fuel := 8) (laidMet_of_run' 8 (by kernel_rfl) (by kernel_rfl)) (by kernel_rfl) (by kernel_rfl)
end Go.Proofs.YtcdpcfnlflpjnaaGreatDoor


/-
  The named package-level variables read behind a call as they read before it, where nothing that was there has turned.
-/
namespace Go.Proofs.YtcdpcfnlflpjnaaGreatDoor
open Go.RowKit

def varsFit (P : Program) (ns : List String) : Bool := ns.all fun n =>
  match P.globalNamed n with
  | some g => match (P.globals[g]?).map (·.type) with
    | some t => P.readableRec t && decide (t < P.types.size)
    | none => false
  | none => false

theorem var?_lt {P : Program} {W : World} {n : String} {g : Nat} {cs : Array Value} (hg : P.globalNamed n = some g) (hv : W.var? P n = some cs) : g < W.heap.size := by
  rcases Nat.lt_or_ge g W.heap.size with h | h
  · exact h
  · unfold World.var? at hv
    simp [hg, Array.getElem?_eq_none h] at hv

theorem vars_below {H : Type} {enc : TypeId × Value → H} {P : Program} {W W' : World} (hl : laidOutB P = true) (bel : Below W.heap.size W W') :
    ∀ {ns : List String} {gs : List (DataW H)} {ps : List MemPlace}, varsFit P ns = true → DataW.TrodVars enc P W (fun _ => true) ns gs ps → DataW.TrodVars enc P W' (fun b => decide (b < W.heap.size)) ns gs ps
  | [], [], ps, _, h => h
  | [], _ :: _, _, _, h => by cases h
  | _ :: _, [], _, _, h => by cases h
  | n :: ns, d :: ds, ps, hf, h => by
    obtain ⟨g, t, cs, fuel, p, q, hg, ht, hv, hd, hr, e⟩ := h
    simp only [varsFit, List.all_cons, Bool.and_eq_true] at hf
    obtain ⟨hf1, hf2⟩ := hf
    rw [hg] at hf1
    simp only [ht, Bool.and_eq_true, decide_eq_true_eq] at hf1
    obtain ⟨fuel', hd'⟩ := Below.trod hl hf1.1 hf1.2 (v := .agg cs) (⟨fuel, by simpa [Value.cells] using hd⟩ : DataW.Trod enc P W 0 (fun _ => true) true t (.agg cs) d p) bel (DataW.trod_lt fuel _ _ _ hd)
    exact ⟨g, t, cs, fuel', p, q, hg, ht, var?_below bel hg (var?_lt hg hv) hv, by simpa [Value.cells] using hd', vars_below hl bel hf2 hr, e⟩

theorem vars_len {H : Type} {enc : TypeId × Value → H} {P : Program} {W : World} {spare : Nat → Bool} : ∀ {ns : List String} {gs : List (DataW H)} {ps : List MemPlace}, DataW.TrodVars enc P W spare ns gs ps → gs.length = ns.length
  | [], [], _, _ => rfl
  | [], _ :: _, _, h => by cases h
  | _ :: _, [], _, h => by cases h
  | _ :: _, _ :: _, _, h => by
    obtain ⟨_, _, _, _, _, _, _, _, _, _, hr, _⟩ := h
    simp [vars_len hr]
end Go.Proofs.YtcdpcfnlflpjnaaGreatDoor

