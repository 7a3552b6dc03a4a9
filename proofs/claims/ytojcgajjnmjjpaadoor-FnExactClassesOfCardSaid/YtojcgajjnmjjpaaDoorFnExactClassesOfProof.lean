/-
  fnExactClassesOf: the law FnExactClassesOf holds of the program at every input (the listed package-level variables as the text lays them): the frame round our walk.
-/
import Derived.Test.YtojcgajjnmjjpaaDoorC01
import Derived.Test.YtojcgajjnmjjpaaDoorC02
import Derived.Test.YtojcgajjnmjjpaaDoorC03
import Derived.Test.YtojcgajjnmjjpaaDoorC04
import Derived.Test.YtojcgajjnmjjpaaDoorC05
import Derived.Test.YtojcgajjnmjjpaaDoorC06
import Derived.Test.YtojcgajjnmjjpaaDoorC07
import Derived.Test.YtojcgajjnmjjpaaDoorC08
import Derived.Test.YtojcgajjnmjjpaaDoorC09
import Derived.Test.YtojcgajjnmjjpaaDoorC10
import Derived.Test.YtojcgajjnmjjpaaDoorC11
import Derived.Test.YtojcgajjnmjjpaaDoorC12
import Derived.Test.YtojcgajjnmjjpaaDoorC13
import Derived.Test.YtojcgajjnmjjpaaDoorC14
import Derived.Test.YtojcgajjnmjjpaaDoorC15
import Derived.Test.YtojcgajjnmjjpaaDoorC16
import Derived.Test.YtojcgajjnmjjpaaDoorC17
import Derived.Test.YtojcgajjnmjjpaaDoorC18
import Derived.Test.YtojcgajjnmjjpaaDoorC19
import Derived.Test.YtojcgajjnmjjpaaDoorC20
import Derived.Test.YtojcgajjnmjjpaaDoorC21
import Derived.Test.YtojcgajjnmjjpaaDoorC22
import Derived.Test.YtojcgajjnmjjpaaDoorC23
import Derived.Test.YtojcgajjnmjjpaaDoorC24
import Derived.Test.YtojcgajjnmjjpaaDoorC25
import Derived.Test.YtojcgajjnmjjpaaDoorC26
import Derived.Test.YtojcgajjnmjjpaaDoorC27
import Derived.Test.YtojcgajjnmjjpaaDoorC28
import Derived.Test.YtojcgajjnmjjpaaDoorC29
import Derived.Test.YtojcgajjnmjjpaaDoorC30
import Derived.Test.YtojcgajjnmjjpaaDoorC31
import Derived.Test.YtojcgajjnmjjpaaDoorC32
import Derived.Test.YtojcgajjnmjjpaaDoorC33
import Derived.Test.YtojcgajjnmjjpaaDoorC34
import Derived.Test.YtojcgajjnmjjpaaDoorC35
import Derived.Test.YtojcgajjnmjjpaaDoorC36
import Derived.Test.YtojcgajjnmjjpaaDoorC37
import Derived.Test.YtojcgajjnmjjpaaDoorC38
import Derived.Test.YtojcgajjnmjjpaaDoorC39
import Derived.Test.YtojcgajjnmjjpaaDoorC40
import Derived.Test.YtojcgajjnmjjpaaDoorC41
import Derived.Test.YtojcgajjnmjjpaaDoorC42
import Derived.Test.YtojcgajjnmjjpaaDoorC43
import Derived.Test.YtojcgajjnmjjpaaDoorC44
import Derived.Test.YtojcgajjnmjjpaaDoorC45
import Derived.Test.YtojcgajjnmjjpaaDoorC46
import Derived.Test.YtojcgajjnmjjpaaDoorC47
import Derived.Test.YtojcgajjnmjjpaaDoorC48
import Derived.Test.YtojcgajjnmjjpaaDoorC49
import Derived.Test.YtojcgajjnmjjpaaDoorRows
import Derived.Test.YtojcgajjnmjjpaaDoorCards
import Derived.Test.YtojcgajjnmjjpaaDoorTie
import Derived.WalkKit
import Derived.ProofKit
import Derived.OpenShut
import Derived.ShutString
import Derived.ChangeOld
import Derived.Below
import Derived.Stop.Joined
import Derived.SevenTiedAt
import Derived.LaidMore
namespace Go.Proofs.YtojcgajjnmjjpaaDoor
open Go.ChangeShapes Go.WideShapes Go.ChangeAt Go.RowKit
open Go.ChangeMaps (open_string shut_string)
set_option linter.unusedVariables false

theorem fnExactClassesOf_own : ownKnob Tryd.prog.godebug = none := by kernel_rfl
theorem fnExactClassesOf_laidOut : laidOutB Tryd.prog = true := by kernel_rfl

set_option maxRecDepth 100000 in
theorem fnExactClassesOf_lifted (os : Os) (started : os.Started) (H : Type) (enc : TypeId × Value → H) :
    ReturnsInHanded {} Tryd.checked os 3 .any (fun w args => (Rows.fnExactClassesOfSpec.pre enc Tryd.prog Tryd.f3 [] false w args ∧ laidMetH Tryd.prog Rows.fnExactClassesOfRow.laid w) ∧ sizedMet enc Tryd.prog Tryd.f3 (OpenSpec.ofChange Rows.fnExactClassesOfSpec) false w args)
      (Rows.fnExactClassesOfSpec.post enc Tryd.prog Tryd.f3 false true false false) := by
  refine returnsInHanded_of_change_and (C := Tryd.checked) (X := fun w _ => laidMetH Tryd.prog Rows.fnExactClassesOfRow.laid w) (fun _ _ _ hh h => h.of_heap hh) fnExactClassesOf_own started (by kernel_rfl) Tryd.func3
    (ChangeSpec.witness_shaped (enc := enc) (C := Tryd.checked) (os := os) (X := fun w _ => laidMetH Tryd.prog Rows.fnExactClassesOfRow.laid w) false (World.doorLaid Tryd.prog 400 os) #[.agg #[.slice none 0 0]] 8 rfl (World.shaped_of_RefB (by kernel_rfl) (by kernel_rfl)) (by kernel_rfl) (by kernel_rfl) (by kernel_rfl) (fnExactClassesOf_door_met os _)) ?_
  intro W base args ds gs before hval0 hW _ _ hL _
  have hval : ∀ (j : Nat) t v, Tryd.f3.params[j]? = some t → args[j]? = some v → Value.okWide Tryd.prog W .any base t v := hval0
  have hW' := hW
  obtain ⟨p, q, hA0, hV, rfl, hfz, hnd⟩ := hW
  have hA : DataW.TrodAll enc Tryd.prog W 0 (fun _ => true) true Tryd.f3.params.toList args.toList ds p := hA0
  rw [Tryd.params3] at hA hval
  obtain ⟨v0, vs0, d0, ds0, p0, q0, hargs, rfl, rfl, h0, r0⟩ := trodAll_cons hA
  obtain ⟨rfl, rfl, rfl⟩ := trodAll_nil r0
  obtain rfl : args = #[v0] := by cases args; simp_all
  have hVs : DataW.TrodVars enc Tryd.prog W (fun _ => true) ["loop.example/g00632/impl.vmShape"] gs q := hV
  obtain ⟨g0, rfl⟩ : ∃ g0, gs = [g0] := by
    have hlen := vars_len hVs
    match gs, hlen with
    | [g0], _ => exact ⟨g0, rfl⟩
  have k0 := h0
  have lt0 : ∀ x ∈ p0, x.block < W.heap.size := by obtain ⟨m, hm⟩ := k0; exact DataW.trod_lt m _ _ _ hm
  obtain ⟨a0, len0, cap0, z0, rfl, w0⟩ := open_laws_Program (hval 0 24 v0 rfl rfl) h0
  clear hA0 hval0
  refine (fnExactClassesOf_walk a0 len0 cap0 z0 W w0 (fnExactClassesOf_laid hL)).mono fun e W' ⟨he, bel⟩ => ?_
  subst he
  have hv' := vars_below fnExactClassesOf_laidOut bel (by kernel_rfl) hVs
  exact ⟨_, rfl, _, _, _, [], _, q, hW', trodAll_mk1 (shut_bool Tryd.underlying4 _), (trodAll_cons_mk (Below.trod fnExactClassesOf_laidOut (by kernel_rfl) (of_decide_eq_true (by kernel_rfl)) k0 bel lt0) trodAll_mk0), hv', bel.frame _, fun h => by cases h⟩

theorem fnExactClassesOf_said : Rows.FnExactClassesOfSaid :=
  OpenClaim.holds_of_wide 3 Tryd.f3 rfl rfl rfl rfl rfl rfl rfl ⟨rfl, rfl, rfl, rfl, rfl⟩ rfl rfl rfl rfl rfl (by kernel_rfl) Tryd.func3 (by kernel_rfl)
    (of_decide_eq_true (by kernel_rfl)) (by unfold Func.isWrapper; rw [if_neg (of_decide_eq_false (by kernel_rfl))]; exact ⟨rfl, rfl⟩)
    (fun os started H enc _ => fnExactClassesOf_lifted os started H enc)

theorem fnExactClassesOf_card : Rows.FnExactClassesOfCardSaid :=
  Claim7.holds_tied_plain_at .later [] [.wider] true (true, "d66d26c5ec8091cff5550d1733dd0559df47cf2f11a729c0df90fe4e62c5bf06") true
    fnExactClassesOf_said (fun _ h => by cases h) (by kernel_rfl) (fun _ h => by cases h) fnExactClassesOf_row_tie rfl ⟨rfl, rfl⟩ (by kernel_rfl) rfl
    (fun f fn hf hfn => by
      obtain rfl : f = 3 := Option.some.inj ((show Tryd.prog.funcNamed "loop.example/g00632/laws.FnExactClassesOf" = some 3 by kernel_rfl).symm.trans hf) |>.symm
      obtain rfl : fn = Tryd.f3 := (Option.some.inj (Tryd.func3.symm.trans hfn)).symm
      exact ⟨by kernel_rfl, fun j t ht => by
        rw [Tryd.params3] at ht
        have hm : t ∈ [24] := by simpa using Array.mem_of_getElem? ht
        have hall : ([24].all fun u => !Tryd.prog.wantsStandIn u) = true := by kernel_rfl
        exact (show Tryd.prog.wantsStandIn t = false by simpa using List.all_eq_true.1 hall t hm)⟩)
    (by kernel_rfl)
#print axioms fnExactClassesOf_card
end Go.Proofs.YtojcgajjnmjjpaaDoor
