/-
  fnExactMemoOK: the law FnExactMemoOK holds of the program at every input (the listed package-level variables as the text lays them): the frame round our walk.
-/
import Derived.Test.YthmgampabhbpoaaDoorA01
import Derived.Test.YthmgampabhbpoaaDoorA02
import Derived.Test.YthmgampabhbpoaaDoorA03
import Derived.Test.YthmgampabhbpoaaDoorA04
import Derived.Test.YthmgampabhbpoaaDoorA05
import Derived.Test.YthmgampabhbpoaaDoorA06
import Derived.Test.YthmgampabhbpoaaDoorA07
import Derived.Test.YthmgampabhbpoaaDoorA08
import Derived.Test.YthmgampabhbpoaaDoorA09
import Derived.Test.YthmgampabhbpoaaDoorA10
import Derived.Test.YthmgampabhbpoaaDoorA11
import Derived.Test.YthmgampabhbpoaaDoorA12
import Derived.Test.YthmgampabhbpoaaDoorA13
import Derived.Test.YthmgampabhbpoaaDoorA14
import Derived.Test.YthmgampabhbpoaaDoorA15
import Derived.Test.YthmgampabhbpoaaDoorA16
import Derived.Test.YthmgampabhbpoaaDoorA17
import Derived.Test.YthmgampabhbpoaaDoorA18
import Derived.Test.YthmgampabhbpoaaDoorA19
import Derived.Test.YthmgampabhbpoaaDoorA20
import Derived.Test.YthmgampabhbpoaaDoorA21
import Derived.Test.YthmgampabhbpoaaDoorA22
import Derived.Test.YthmgampabhbpoaaDoorA23
import Derived.Test.YthmgampabhbpoaaDoorA24
import Derived.Test.YthmgampabhbpoaaDoorA25
import Derived.Test.YthmgampabhbpoaaDoorA26
import Derived.Test.YthmgampabhbpoaaDoorA27
import Derived.Test.YthmgampabhbpoaaDoorA28
import Derived.Test.YthmgampabhbpoaaDoorA29
import Derived.Test.YthmgampabhbpoaaDoorA30
import Derived.Test.YthmgampabhbpoaaDoorA31
import Derived.Test.YthmgampabhbpoaaDoorA32
import Derived.Test.YthmgampabhbpoaaDoorA33
import Derived.Test.YthmgampabhbpoaaDoorA34
import Derived.Test.YthmgampabhbpoaaDoorA35
import Derived.Test.YthmgampabhbpoaaDoorA36
import Derived.Test.YthmgampabhbpoaaDoorA37
import Derived.Test.YthmgampabhbpoaaDoorA38
import Derived.Test.YthmgampabhbpoaaDoorA39
import Derived.Test.YthmgampabhbpoaaDoorA40
import Derived.Test.YthmgampabhbpoaaDoorA41
import Derived.Test.YthmgampabhbpoaaDoorA42
import Derived.Test.YthmgampabhbpoaaDoorA43
import Derived.Test.YthmgampabhbpoaaDoorA44
import Derived.Test.YthmgampabhbpoaaDoorA45
import Derived.Test.YthmgampabhbpoaaDoorA46
import Derived.Test.YthmgampabhbpoaaDoorA47
import Derived.Test.YthmgampabhbpoaaDoorA48
import Derived.Test.YthmgampabhbpoaaDoorA49
import Derived.Test.YthmgampabhbpoaaDoorRows
import Derived.Test.YthmgampabhbpoaaDoorCards
import Derived.Test.YthmgampabhbpoaaDoorTie
import Derived.WalkKit
import Derived.ProofKit
import Derived.OpenShut
import Derived.ShutString
import Derived.ChangeOld
import Derived.Below
import Derived.Stop.Joined
import Derived.SevenTiedAt
import Derived.LaidMore
namespace Go.Proofs.YthmgampabhbpoaaDoor
open Go.ChangeShapes Go.WideShapes Go.ChangeAt Go.RowKit
open Go.ChangeMaps (open_string shut_string)
set_option linter.unusedVariables false

theorem fnExactMemoOK_own : ownKnob Tryd.prog.godebug = none := by kernel_rfl
theorem fnExactMemoOK_laidOut : laidOutB Tryd.prog = true := by kernel_rfl

set_option maxRecDepth 100000 in
theorem fnExactMemoOK_lifted (os : Os) (started : os.Started) (H : Type) (enc : TypeId × Value → H) :
    ReturnsInHanded {} Tryd.checked os 4 .any (fun w args => (Rows.fnExactMemoOKSpec.pre enc Tryd.prog Tryd.f4 [] false w args ∧ laidMetH Tryd.prog Rows.fnExactMemoOKRow.laid w) ∧ sizedMet enc Tryd.prog Tryd.f4 (OpenSpec.ofChange Rows.fnExactMemoOKSpec) false w args)
      (Rows.fnExactMemoOKSpec.post enc Tryd.prog Tryd.f4 false true false false) := by
  refine returnsInHanded_of_change_and (C := Tryd.checked) (X := fun w _ => laidMetH Tryd.prog Rows.fnExactMemoOKRow.laid w) (fun _ _ _ hh h => h.of_heap hh) fnExactMemoOK_own started (by kernel_rfl) Tryd.func4
    (ChangeSpec.witness_shaped (enc := enc) (C := Tryd.checked) (os := os) (X := fun w _ => laidMetH Tryd.prog Rows.fnExactMemoOKRow.laid w) false (World.doorLaid Tryd.prog 400 os) #[.agg #[.slice none 0 0]] 8 rfl (World.shaped_of_RefB (by kernel_rfl) (by kernel_rfl)) (by kernel_rfl) (by kernel_rfl) (by kernel_rfl) (fnExactMemoOK_door_met os _)) ?_
  intro W base args ds gs before hval0 hW _ _ hL _
  have hval : ∀ (j : Nat) t v, Tryd.f4.params[j]? = some t → args[j]? = some v → Value.okWide Tryd.prog W .any base t v := hval0
  have hW' := hW
  obtain ⟨p, q, hA0, hV, rfl, hfz, hnd⟩ := hW
  have hA : DataW.TrodAll enc Tryd.prog W 0 (fun _ => true) true Tryd.f4.params.toList args.toList ds p := hA0
  rw [Tryd.params4] at hA hval
  obtain ⟨v0, vs0, d0, ds0, p0, q0, hargs, rfl, rfl, h0, r0⟩ := trodAll_cons hA
  obtain ⟨rfl, rfl, rfl⟩ := trodAll_nil r0
  obtain rfl : args = #[v0] := by cases args; simp_all
  have hVs : DataW.TrodVars enc Tryd.prog W (fun _ => true) ["loop.example/g00632/impl.vmShape"] gs q := hV
  obtain ⟨g0, rfl⟩ : ∃ g0, gs = [g0] := by
    have hlen := vars_len hVs
    match gs, hlen with
    | [g0], _ => exact ⟨g0, rfl⟩
  have k0 := h0
  have lt0 : ∀ x ∈ p0, x.block < W.heap.size := by obtain ⟨m, hm⟩ := k0; exact DataW.trod_lt m _ _ _ hm
  obtain ⟨a0, len0, cap0, z0, rfl, w0⟩ := open_laws_Memo (hval 0 36 v0 rfl rfl) h0
  clear hA0 hval0
  refine (fnExactMemoOK_walk a0 len0 cap0 z0 W w0 (fnExactMemoOK_laid hL)).mono fun e W' ⟨he, bel⟩ => ?_
  subst he
  have hv' := vars_below fnExactMemoOK_laidOut bel (by kernel_rfl) hVs
  exact ⟨_, rfl, _, _, _, [], _, q, hW', trodAll_mk1 (shut_bool Tryd.underlying4 _), (trodAll_cons_mk (Below.trod fnExactMemoOK_laidOut (by kernel_rfl) (of_decide_eq_true (by kernel_rfl)) k0 bel lt0) trodAll_mk0), hv', bel.frame _, fun h => by cases h⟩

theorem fnExactMemoOK_said : Rows.FnExactMemoOKSaid :=
  OpenClaim.holds_of_wide 4 Tryd.f4 rfl rfl rfl rfl rfl rfl rfl ⟨rfl, rfl, rfl, rfl, rfl⟩ rfl rfl rfl rfl rfl (by kernel_rfl) Tryd.func4 (by kernel_rfl)
    (of_decide_eq_true (by kernel_rfl)) (by unfold Func.isWrapper; rw [if_neg (of_decide_eq_false (by kernel_rfl))]; exact ⟨rfl, rfl⟩)
    (fun os started H enc _ => fnExactMemoOK_lifted os started H enc)

theorem fnExactMemoOK_card : Rows.FnExactMemoOKCardSaid :=
  Claim7.holds_tied_plain_at .later [] [.wider] true (true, "436dbc765638746d4e0f2b2233015272c87edfca9a8a0189ecf0b313bee75414") true
    fnExactMemoOK_said (fun _ h => by cases h) (by kernel_rfl) (fun _ h => by cases h) fnExactMemoOK_row_tie rfl ⟨rfl, rfl⟩ (by kernel_rfl) rfl
    (fun f fn hf hfn => by
      obtain rfl : f = 4 := Option.some.inj ((show Tryd.prog.funcNamed "loop.example/g00632/laws.FnExactMemoOK" = some 4 by kernel_rfl).symm.trans hf) |>.symm
      obtain rfl : fn = Tryd.f4 := (Option.some.inj (Tryd.func4.symm.trans hfn)).symm
      exact ⟨by kernel_rfl, fun j t ht => by
        rw [Tryd.params4] at ht
        have hm : t ∈ [36] := by simpa using Array.mem_of_getElem? ht
        have hall : ([36].all fun u => !Tryd.prog.wantsStandIn u) = true := by kernel_rfl
        exact (show Tryd.prog.wantsStandIn t = false by simpa using List.all_eq_true.1 hall t hm)⟩)
    (by kernel_rfl)
#print axioms fnExactMemoOK_card
end Go.Proofs.YthmgampabhbpoaaDoor
