/-
  Joined: VmLaid, WofE, Vars.
-/
import Derived.Test.YtcdpcfnlflpjnaaDoorProg
import Derived.Deep.RegionHeld3
import Derived.KernelRfl
import Derived.Tactics
import Derived.WalkKit
import Derived.WalkSpells
import Derived.WalkLawsBesides
import Derived.RegionTactic
import Derived.BigQuiet
import Derived.Deep.QuietTactic
import Derived.Deep.Slices
import Derived.Deep.Strs
import Derived.Deep.Fields
import Derived.ChangeSame
import Derived.Handy
import Derived.OwnWalk
import Derived.ChangeSlices
import Derived.Lib.SmallJoins
import Derived.Shelf.Abstract
import Derived.Laws.BytesArg
import Derived.Deep.RegionLaw
import Derived.Laws.OwnMore
import Derived.Test.YtcdpcfnlflpjnaaDoorRows
import Derived.ProofKit
import Derived.OpenShut
import Derived.LaidMore
import Derived.MakeChecks
import Derived.Stop.LaidErr
import Derived.Laws.CopyOwn
import Derived.Laws.Tables
import Derived.BigRegion
import Derived.Maps.AppendAt
import Derived.Stop.Asserts
import Derived.Recover
import Derived.IntWalk
import Derived.Deep.MidRow
import Derived.Laws.RangeString
import Derived.Laws.RangeAny
import Derived.Laws.Bits
import Derived.Lib.FieldsP
import Derived.Shelf.SlSortCmp.NoneTotal
import Derived.Shelf.Spec.SlicesGrow
import Derived.Laws.AppendOwnNone
import Derived.Lib.SliceRun
import Derived.Maps.OwnSet
import Derived.Carry
import Derived.Deep.CutRange
import Derived.Shelf.Slices.Reverse
import Derived.WalkSmall
import Derived.ChangeOld
import Derived.Test.YtcdpcfnlflpjnaaDoorQ01
import Derived.Test.YtcdpcfnlflpjnaaDoorQ02
import Derived.Test.YtcdpcfnlflpjnaaDoorQ09
import Derived.Test.YtcdpcfnlflpjnaaDoorQ14
import Derived.Test.YtcdpcfnlflpjnaaDoorQ30
import Derived.Test.YtcdpcfnlflpjnaaDoorQ36
import Derived.Test.YtcdpcfnlflpjnaaDoorQ37
import Derived.Test.YtcdpcfnlflpjnaaDoorQ44
import Derived.Test.YtcdpcfnlflpjnaaDoorQ46
import Derived.Test.YtcdpcfnlflpjnaaDoorQ47
import Derived.Test.YtcdpcfnlflpjnaaDoorQ48

/-
  What the condition on the table vmShape gives the walks.
-/
namespace Go.Proofs.YtcdpcfnlflpjnaaDoor
open Go.RowKit Go.ChangeShapes

theorem gVmShape : Tryd.prog.globalNamed "loop.example/g00632/impl.vmShape" = some 0 := by kernel_rfl
theorem tVmShape : (Tryd.prog.globals[0]?).map (·.type) = some 144 := by kernel_rfl

section
variable {H : Type} {enc : TypeId × Value → H} {w : World} {base : Nat} {spare : Nat → Bool} {held : Bool}
set_option maxRecDepth 100000 in
theorem part_cells {fuel : Nat} {cs : List Value} {a b : Int} {p : List MemPlace} (h : DataW.trod enc Tryd.prog w base spare held fuel 143 cs = some (.agg [.lit (.int .i64 a), .lit (.int .i64 b)], p)) : cs = [.int .i64 a, .int .i64 b] := by
  obtain ⟨y0, y1, n, hx, hl, h0, h1⟩ := trod_struct2 Tryd.underlying143 h
  have hl2 : cs.length = 2 := hl.trans (by kernel_rfl)
  have hk : Tryd.prog.cellsOf 3 = 1 := by kernel_rfl
  match cs, hl2 with
  | [c0, c1], _ =>
    simp only [hk] at h0 h1
    obtain ⟨z0, e0, hy0, _⟩ := DataW.trod_int Tryd.underlying3 h0
    obtain ⟨z1, e1, hy1, _⟩ := DataW.trod_int Tryd.underlying3 h1
    simp at e0 e1
    subst hy0 hy1 e0 e1
    simp at hx
    simp [hx]
set_option maxRecDepth 100000 in
theorem shape_cells {fuel : Nat} {cs : List Value} {p : List MemPlace} (h : DataW.trod enc Tryd.prog w base spare held fuel 144 cs = some (Rows.laid_loop_example_g00632_impl_vmShape, p)) : cs = [3, 6, 4, 9, 2, 3, 6, 9].map (Value.int .i64) := by
  obtain ⟨xs, m, _, hx, hl, hn, hi⟩ := DataW.trod_array Tryd.underlying144 h
  have hk : Tryd.prog.cellsOf 143 = 2 := by kernel_rfl
  have hl8 : cs.length = 8 := hl.trans (by kernel_rfl)
  rw [hk] at hi
  match xs, hn with
  | [⟨x0, p0⟩, ⟨x1, p1⟩, ⟨x2, p2⟩, ⟨x3, p3⟩], _ =>
    unfold Rows.laid_loop_example_g00632_impl_vmShape at hx
    simp at hx
    obtain ⟨⟨rfl, rfl, rfl, rfl⟩, _⟩ := hx
    match cs, hl8 with
    | [c0, c1, c2, c3, c4, c5, c6, c7], _ =>
      have g0 := part_cells (hi 0 (by decide))
      have g1 := part_cells (hi 1 (by decide))
      have g2 := part_cells (hi 2 (by decide))
      have g3 := part_cells (hi 3 (by decide))
      simp at g0 g1 g2 g3
      simp [g0, g1, g2, g3]
end

set_option maxRecDepth 100000 in
theorem vmShape_of_laid {W : World} {p : List (String × DataW Unit)} (hp : p = [("loop.example/g00632/impl.vmShape", Rows.laid_loop_example_g00632_impl_vmShape)]) (h : laidMetH Tryd.prog p W) : VmShape W := by
  subst hp
  rw [MakeChecks.laidMetH_plain _ _ _ (by kernel_rfl)] at h
  obtain ⟨ps, ⟨g0, t0, cs0, f0, p0, q0, hg0, ht0, hv0, hd0, _, _⟩, _, _⟩ := h
  obtain rfl := Option.some.inj (gVmShape.symm.trans hg0)
  obtain rfl := Option.some.inj (tVmShape.symm.trans ht0)
  have hcs := shape_cells hd0
  unfold World.var? at hv0
  simp only [gVmShape, Option.bind_some] at hv0
  cases hh : W.heap[0]? with
  | none => rw [hh] at hv0; cases hv0
  | some o =>
    rw [hh] at hv0
    cases o with
    | cells cs t fr =>
      simp only [Option.some.injEq] at hv0
      subst hv0
      intro i v hi
      rw [← hcs] at hi
      simp only [World.cell?, hh]
      simpa using hi
    | _ => cases hv0
end Go.Proofs.YtcdpcfnlflpjnaaDoor


/-
  FnExactWitnessOf: the walk over what both answer, and what the row's condition on vmShape gives it.
-/
namespace Go.Proofs.YtcdpcfnlflpjnaaDoor
open Go.RowKit
set_option linter.unusedVariables false

theorem witF_len {S : List (Rec6 V4)} {hit : V4 → Option (List Int)} (hh : ∀ m t, hit m = some t → t.length ≤ 1) : ∀ (rs : List (Rec6 V4)) (i : Nat) (ks : List Int), witF S hit i rs = some ks → ks.length ≤ i + rs.length + 1
  | [], i, ks, h => by simp [witF] at h
  | r :: rs, i, ks, h => by
    have h2 : (match hit r.1 with | some t => some (pathS S i i ++ t) | none => witF S hit (i + 1) rs) = some ks := h
    cases e : hit r.1 with
    | some t =>
      rw [e] at h2
      simp at h2
      subst h2
      have := hh r.1 t e
      have := pathS_len S i i
      simp
      omega
    | none =>
      rw [e] at h2
      have := witF_len hh rs (i + 1) ks h2
      simp
      omega
theorem wofL_len (rows : List (List I3)) (b : I3) : (wofL rows b).length ≤ 100000 := by
  unfold wofL
  split
  · rename_i h
    obtain ⟨_, hf⟩ := code_parts h.2
    cases e : witO rows b with
    | none => simp
    | some ks =>
      unfold witO at e
      have := witF_len (fun m t ht => by
        unfold hitI at ht
        split at ht
        · simp at ht; subst ht; split <;> simp
        · simp at ht) _ _ _ e
      simp
      omega
  · simp
theorem fnExactWitnessOf_walk (a0 : Option Addr) (n0 c0 : Nat) (r0 : List (List I3)) (y1 : I3) (w : World) (h0 : Codes w a0 n0 c0 r0) (_h1 : y1.fits) (hG : VmShape w) :
    Calls Tryd.prog 4 #[.agg #[.slice a0 n0 c0], y1.val] w fun e w' => e = .returned (.bool true) ∧ Below w.heap.size w w' :=
  fnExactWitnessOf_of a0 n0 c0 r0 y1 (wofL r0 y1) (wofL_len r0 y1) (wofC r0 y1) w h0 hG (fun a n c w hC => specWitnessOf_is a n c r0 y1 w hC) (fun a n c w hC hV => implWitnessOf_is a n c r0 y1 w hC hV)
theorem fnExactWitnessOf_laid {W : World} (h : laidMetH Tryd.prog Rows.fnExactWitnessOfRow.laid W) : VmShape W := vmShape_of_laid rfl h
theorem fnExactWitnessOf_door_met (os : Os) (args : Array Value) : laidMetH Tryd.prog Rows.fnExactWitnessOfRow.laid ((World.doorLaid Tryd.prog 400 os).forCall (fun _ _ => 0) ⟨#[], args, []⟩).memory :=
  laidMetH_of_parts3 (fuel := 8) (laidMet_of_run' 8 (by kernel_rfl) (by kernel_rfl)) (by kernel_rfl) (by kernel_rfl)
end Go.Proofs.YtcdpcfnlflpjnaaDoor


/-
  The named package-level variables read behind a call as they read before it, where nothing that was there has turned.
-/
namespace Go.Proofs.YtcdpcfnlflpjnaaDoor
open Go.RowKit

def varsFit (P : Program) (ns : List String) : Bool := ns.all fun n =>
  match P.globalNamed n with
  | some g => match (P.globals[g]?).map (·.type) with
    | some t => P.readableRec t && decide (t < P.types.size)
    | none => false
  | none => false

theorem var?_lt {P : Program} {W : World} {n : String} {g : Nat} {cs : Array Value} (hg : P.globalNamed n = some g) (hv : W.var? P n = some cs) : g < W.heap.size := by
  rcases Nat.lt_or_ge g W.heap.size with h | h
  · exact h
  · unfold World.var? at hv
    simp [hg, Array.getElem?_eq_none h] at hv

theorem vars_below {H : Type} {enc : TypeId × Value → H} {P : Program} {W W' : World} (hl : laidOutB P = true) (bel : Below W.heap.size W W') :
    ∀ {ns : List String} {gs : List (DataW H)} {ps : List MemPlace}, varsFit P ns = true → DataW.TrodVars enc P W (fun _ => true) ns gs ps → DataW.TrodVars enc P W' (fun b => decide (b < W.heap.size)) ns gs ps
  | [], [], ps, _, h => h
  | [], _ :: _, _, _, h => by cases h
  | _ :: _, [], _, _, h => by cases h
  | n :: ns, d :: ds, ps, hf, h => by
    obtain ⟨g, t, cs, fuel, p, q, hg, ht, hv, hd, hr, e⟩ := h
    simp only [varsFit, List.all_cons, Bool.and_eq_true] at hf
    obtain ⟨hf1, hf2⟩ := hf
    rw [hg] at hf1
    simp only [ht, Bool.and_eq_true, decide_eq_true_eq] at hf1
    obtain ⟨fuel', hd'⟩ := Below.trod hl hf1.1 hf1.2 (v := .agg cs) (⟨fuel, by simpa [Value.cells] using hd⟩ : DataW.Trod enc P W 0 (fun _ => true) true t (.agg cs) d p) bel (DataW.trod_lt fuel _ _ _ hd)
    exact ⟨g, t, cs, fuel', p, q, hg, ht, var?_below bel hg (var?_lt hg hv) hv, by simpa [Value.cells] using hd', vars_below hl bel hf2 hr, e⟩

theorem vars_len {H : Type} {enc : TypeId × Value → H} {P : Program} {W : World} {spare : Nat → Bool} : ∀ {ns : List String} {gs : List (DataW H)} {ps : List MemPlace}, DataW.TrodVars enc P W spare ns gs ps → gs.length = ns.length
  | [], [], _, _ => rfl
  | [], _ :: _, _, h => by cases h
  | _ :: _, [], _, h => by cases h
  | _ :: _, _ :: _, _, h => by
    obtain ⟨_, _, _, _, _, _, _, _, _, _, hr, _⟩ := h
    simp [vars_len hr]
end Go.Proofs.YtcdpcfnlflpjnaaDoor

