/-
  fnExactFootOf: the law FnExactFootOf holds of the program at every input (the listed package-level variables as the text lays them): the frame round our walk.
-/
import Derived.Test.YtfpopbbmnbehiaaGreatDoorC01
import Derived.Test.YtfpopbbmnbehiaaGreatDoorC02
import Derived.Test.YtfpopbbmnbehiaaGreatDoorC03
import Derived.Test.YtfpopbbmnbehiaaGreatDoorC04
import Derived.Test.YtfpopbbmnbehiaaGreatDoorC05
import Derived.Test.YtfpopbbmnbehiaaGreatDoorC06
import Derived.Test.YtfpopbbmnbehiaaGreatDoorC07
import Derived.Test.YtfpopbbmnbehiaaGreatDoorC08
import Derived.Test.YtfpopbbmnbehiaaGreatDoorC09
import Derived.Test.YtfpopbbmnbehiaaGreatDoorC10
import Derived.Test.YtfpopbbmnbehiaaGreatDoorC11
import Derived.Test.YtfpopbbmnbehiaaGreatDoorC12
import Derived.Test.YtfpopbbmnbehiaaGreatDoorC13
import Derived.Test.YtfpopbbmnbehiaaGreatDoorC14
import Derived.Test.YtfpopbbmnbehiaaGreatDoorC15
import Derived.Test.YtfpopbbmnbehiaaGreatDoorC16
import Derived.Test.YtfpopbbmnbehiaaGreatDoorC17
import Derived.Test.YtfpopbbmnbehiaaGreatDoorC18
import Derived.Test.YtfpopbbmnbehiaaGreatDoorC19
import Derived.Test.YtfpopbbmnbehiaaGreatDoorC20
import Derived.Test.YtfpopbbmnbehiaaGreatDoorC21
import Derived.Test.YtfpopbbmnbehiaaGreatDoorC22
import Derived.Test.YtfpopbbmnbehiaaGreatDoorC23
import Derived.Test.YtfpopbbmnbehiaaGreatDoorC24
import Derived.Test.YtfpopbbmnbehiaaGreatDoorC25
import Derived.Test.YtfpopbbmnbehiaaGreatDoorC26
import Derived.Test.YtfpopbbmnbehiaaGreatDoorC27
import Derived.Test.YtfpopbbmnbehiaaGreatDoorC28
import Derived.Test.YtfpopbbmnbehiaaGreatDoorC29
import Derived.Test.YtfpopbbmnbehiaaGreatDoorC30
import Derived.Test.YtfpopbbmnbehiaaGreatDoorC31
import Derived.Test.YtfpopbbmnbehiaaGreatDoorC32
import Derived.Test.YtfpopbbmnbehiaaGreatDoorC33
import Derived.Test.YtfpopbbmnbehiaaGreatDoorC34
import Derived.Test.YtfpopbbmnbehiaaGreatDoorC35
import Derived.Test.YtfpopbbmnbehiaaGreatDoorC36
import Derived.Test.YtfpopbbmnbehiaaGreatDoorC37
import Derived.Test.YtfpopbbmnbehiaaGreatDoorC38
import Derived.Test.YtfpopbbmnbehiaaGreatDoorC39
import Derived.Test.YtfpopbbmnbehiaaGreatDoorC40
import Derived.Test.YtfpopbbmnbehiaaGreatDoorC41
import Derived.Test.YtfpopbbmnbehiaaGreatDoorC42
import Derived.Test.YtfpopbbmnbehiaaGreatDoorC43
import Derived.Test.YtfpopbbmnbehiaaGreatDoorC44
import Derived.Test.YtfpopbbmnbehiaaGreatDoorC45
import Derived.Test.YtfpopbbmnbehiaaGreatDoorC46
import Derived.Test.YtfpopbbmnbehiaaGreatDoorC47
import Derived.Test.YtfpopbbmnbehiaaGreatDoorC48
import Derived.Test.YtfpopbbmnbehiaaGreatDoorC49
import Derived.Test.YtfpopbbmnbehiaaGreatDoorC50
import Derived.Test.YtfpopbbmnbehiaaGreatDoorC51
import Derived.Test.YtfpopbbmnbehiaaGreatDoorC52
import Derived.Test.YtfpopbbmnbehiaaGreatDoorC60
import Derived.Test.YtfpopbbmnbehiaaGreatDoorRows
import Derived.Test.YtfpopbbmnbehiaaGreatDoorCards
import Derived.Test.YtfpopbbmnbehiaaGreatDoorTie
import Derived.WalkKit
import Derived.ProofKit
import Derived.OpenShut
import Derived.ShutString
import Derived.ChangeOld
import Derived.Below
import Derived.Stop.Joined
import Derived.SevenTiedAt
import Derived.LaidMore
namespace Go.Proofs.YtfpopbbmnbehiaaGreatDoor
open Go.ChangeShapes Go.WideShapes Go.ChangeAt Go.RowKit
open Go.ChangeMaps (open_string shut_string)
set_option linter.unusedVariables false

theorem fnExactFootOf_own : ownKnob Tryz.prog.godebug = none := by kernel_rfl
theorem fnExactFootOf_laidOut : laidOutB Tryz.prog = true := by kernel_rfl

set_option maxRecDepth 100000 in
theorem fnExactFootOf_lifted (os : Os) (started : os.Started) (H : Type) (enc : TypeId × Value → H) :
    ReturnsInHanded {} Tryz.checked os 7 .any (fun w args => (Rows.fnExactFootOfSpec.pre enc Tryz.prog Tryz.f7 [] false w args ∧ laidMetH Tryz.prog Rows.fnExactFootOfRow.laid w) ∧ sizedMet enc Tryz.prog Tryz.f7 (OpenSpec.ofChange Rows.fnExactFootOfSpec) false w args)
      (Rows.fnExactFootOfSpec.post enc Tryz.prog Tryz.f7 false true false false) := by
  refine returnsInHanded_of_change_and (C := Tryz.checked) (X := fun w _ => laidMetH Tryz.prog Rows.fnExactFootOfRow.laid w) (fun _ _ _ hh h => h.of_heap hh) fnExactFootOf_own started (by kernel_rfl) Tryz.func7
    (ChangeSpec.witness_shaped (enc := enc) (C := Tryz.checked) (os := os) (X := fun w _ => laidMetH Tryz.prog Rows.fnExactFootOfRow.laid w) false (World.doorLaid Tryz.prog 400 os) #[.agg #[.slice none 0 0], .agg #[.slice none 0 0, .slice none 0 0, .slice none 0 0, .slice none 0 0]] 8 rfl (World.shaped_of_RefB (by kernel_rfl) (by kernel_rfl)) (by kernel_rfl) (by kernel_rfl) (by kernel_rfl) (fnExactFootOf_door_met os _)) ?_
  intro W base args ds gs before hval0 hW _ _ hL _
  have hval : ∀ (j : Nat) t v, Tryz.f7.params[j]? = some t → args[j]? = some v → Value.okWide Tryz.prog W .any base t v := hval0
  have hW' := hW
  obtain ⟨p, q, hA0, hV, rfl, hfz, hnd⟩ := hW
  have hA : DataW.TrodAll enc Tryz.prog W 0 (fun _ => true) true Tryz.f7.params.toList args.toList ds p := hA0
  rw [Tryz.params7] at hA hval
  obtain ⟨v0, vs0, d0, ds0, p0, q0, hargs, rfl, rfl, h0, r0⟩ := trodAll_cons hA
  obtain ⟨v1, vs1, d1, ds1, p1, q1, rfl, rfl, rfl, h1, r1⟩ := trodAll_cons r0
  obtain ⟨rfl, rfl, rfl⟩ := trodAll_nil r1
  obtain rfl : args = #[v0, v1] := by cases args; simp_all
  have hVs : DataW.TrodVars enc Tryz.prog W (fun _ => true) ["loop.example/g00632/impl.vmShape"] gs q := hV
  obtain ⟨g0, rfl⟩ : ∃ g0, gs = [g0] := by
    have hlen := vars_len hVs
    match gs, hlen with
    | [g0], _ => exact ⟨g0, rfl⟩
  have k0 := h0
  have lt0 : ∀ x ∈ p0, x.block < W.heap.size := by obtain ⟨m, hm⟩ := k0; exact DataW.trod_lt m _ _ _ hm
  obtain ⟨a0, len0, cap0, z0, rfl, w0⟩ := open_laws_Program (hval 0 64 v0 rfl rfl) h0
  have k1 := h1
  have lt1 : ∀ x ∈ p1, x.block < W.heap.size := by obtain ⟨m, hm⟩ := k1; exact DataW.trod_lt m _ _ _ hm
  obtain ⟨s1, m1, rfl, w1⟩ := open_laws_Vm (hval 1 71 v1 rfl rfl) h1
  clear hA0 hval0
  refine (fnExactFootOf_walk a0 len0 cap0 z0 s1 m1 W w0 w1 (fnExactFootOf_laid hL)).mono fun e W' ⟨he, bel⟩ => ?_
  subst he
  have hv' := vars_below fnExactFootOf_laidOut bel (by kernel_rfl) hVs
  exact ⟨_, rfl, _, _, _, [], _, q, hW', trodAll_mk1 (shut_bool Tryz.underlying4 _), (trodAll_cons_mk (Below.trod fnExactFootOf_laidOut (by kernel_rfl) (of_decide_eq_true (by kernel_rfl)) k0 bel lt0) (trodAll_cons_mk (Below.trod fnExactFootOf_laidOut (by kernel_rfl) (of_decide_eq_true (by kernel_rfl)) k1 bel lt1) trodAll_mk0)), hv', bel.frame _, fun h => by cases h⟩

theorem fnExactFootOf_said : Rows.FnExactFootOfSaid :=
  OpenClaim.holds_of_wide 7 Tryz.f7 rfl rfl rfl rfl rfl rfl rfl ⟨rfl, rfl, rfl, rfl, rfl⟩ rfl rfl rfl rfl rfl (by kernel_rfl) Tryz.func7 (by kernel_rfl)
    (of_decide_eq_true (by kernel_rfl)) (by unfold Func.isWrapper; rw [if_neg (of_decide_eq_false (by kernel_rfl))]; exact ⟨rfl, rfl⟩)
    (fun os started H enc _ => fnExactFootOf_lifted os started H enc)

theorem fnExactFootOf_card : Rows.FnExactFootOfCardSaid :=
  Claim7.holds_tied_plain_at .later [] [.wider] true (true, "c9f9e1ce087c3314a76d36bca809edb022c151c9f8573506a67a99ad6109c7bf") true
    fnExactFootOf_said (fun _ h => by cases h) (by kernel_rfl) (fun _ h => by cases h) fnExactFootOf_row_tie rfl ⟨rfl, rfl⟩ (by kernel_rfl) rfl
    (fun f fn hf hfn => by
      obtain rfl : f = 7 := Option.some.inj ((show Tryz.prog.funcNamed "loop.example/g00632/laws.FnExactFootOf" = some 7 by kernel_rfl).symm.trans hf) |>.symm
      obtain rfl : fn = Tryz.f7 := (Option.some.inj (Tryz.func7.symm.trans hfn)).symm
      exact ⟨by kernel_rfl, fun j t ht => by
        rw [Tryz.params7] at ht
        have hm : t ∈ [64, 71] := by simpa using Array.mem_of_getElem? ht
        have hall : ([64, 71].all fun u => !Tryz.prog.wantsStandIn u) = true := by kernel_rfl
        exact (show Tryz.prog.wantsStandIn t = false by simpa using List.all_eq_true.1 hall t hm)⟩)
    (by kernel_rfl)
#print axioms fnExactFootOf_card
end Go.Proofs.YtfpopbbmnbehiaaGreatDoor
