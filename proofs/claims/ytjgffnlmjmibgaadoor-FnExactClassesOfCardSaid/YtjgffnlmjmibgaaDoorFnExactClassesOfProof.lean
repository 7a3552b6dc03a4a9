/-
  fnExactClassesOf: the law FnExactClassesOf holds of the program at every input (the listed package-level variables as the text lays them): the frame round our walk.
-/
import Derived.Test.YtjgffnlmjmibgaaDoorN01
import Derived.Test.YtjgffnlmjmibgaaDoorN02
import Derived.Test.YtjgffnlmjmibgaaDoorN03
import Derived.Test.YtjgffnlmjmibgaaDoorN04
import Derived.Test.YtjgffnlmjmibgaaDoorN05
import Derived.Test.YtjgffnlmjmibgaaDoorN06
import Derived.Test.YtjgffnlmjmibgaaDoorN07
import Derived.Test.YtjgffnlmjmibgaaDoorN08
import Derived.Test.YtjgffnlmjmibgaaDoorN09
import Derived.Test.YtjgffnlmjmibgaaDoorN10
import Derived.Test.YtjgffnlmjmibgaaDoorN11
import Derived.Test.YtjgffnlmjmibgaaDoorN12
import Derived.Test.YtjgffnlmjmibgaaDoorN13
import Derived.Test.YtjgffnlmjmibgaaDoorN14
import Derived.Test.YtjgffnlmjmibgaaDoorN15
import Derived.Test.YtjgffnlmjmibgaaDoorN16
import Derived.Test.YtjgffnlmjmibgaaDoorN17
import Derived.Test.YtjgffnlmjmibgaaDoorN18
import Derived.Test.YtjgffnlmjmibgaaDoorN19
import Derived.Test.YtjgffnlmjmibgaaDoorN20
import Derived.Test.YtjgffnlmjmibgaaDoorN21
import Derived.Test.YtjgffnlmjmibgaaDoorN22
import Derived.Test.YtjgffnlmjmibgaaDoorN23
import Derived.Test.YtjgffnlmjmibgaaDoorN24
import Derived.Test.YtjgffnlmjmibgaaDoorN25
import Derived.Test.YtjgffnlmjmibgaaDoorN26
import Derived.Test.YtjgffnlmjmibgaaDoorN27
import Derived.Test.YtjgffnlmjmibgaaDoorN28
import Derived.Test.YtjgffnlmjmibgaaDoorN29
import Derived.Test.YtjgffnlmjmibgaaDoorN30
import Derived.Test.YtjgffnlmjmibgaaDoorN31
import Derived.Test.YtjgffnlmjmibgaaDoorN32
import Derived.Test.YtjgffnlmjmibgaaDoorN33
import Derived.Test.YtjgffnlmjmibgaaDoorN34
import Derived.Test.YtjgffnlmjmibgaaDoorN35
import Derived.Test.YtjgffnlmjmibgaaDoorN36
import Derived.Test.YtjgffnlmjmibgaaDoorN37
import Derived.Test.YtjgffnlmjmibgaaDoorN38
import Derived.Test.YtjgffnlmjmibgaaDoorN39
import Derived.Test.YtjgffnlmjmibgaaDoorN40
import Derived.Test.YtjgffnlmjmibgaaDoorN41
import Derived.Test.YtjgffnlmjmibgaaDoorN42
import Derived.Test.YtjgffnlmjmibgaaDoorN43
import Derived.Test.YtjgffnlmjmibgaaDoorN44
import Derived.Test.YtjgffnlmjmibgaaDoorN45
import Derived.Test.YtjgffnlmjmibgaaDoorN46
import Derived.Test.YtjgffnlmjmibgaaDoorN47
import Derived.Test.YtjgffnlmjmibgaaDoorN48
import Derived.Test.YtjgffnlmjmibgaaDoorN49
import Derived.Test.YtjgffnlmjmibgaaDoorRows
import Derived.Test.YtjgffnlmjmibgaaDoorCards
import Derived.Test.YtjgffnlmjmibgaaDoorTie
import Derived.WalkKit
import Derived.ProofKit
import Derived.OpenShut
import Derived.ShutString
import Derived.ChangeOld
import Derived.Below
import Derived.Stop.Joined
import Derived.SevenTiedAt
import Derived.LaidMore
namespace Go.Proofs.YtjgffnlmjmibgaaDoor
open Go.ChangeShapes Go.WideShapes Go.ChangeAt Go.RowKit
open Go.ChangeMaps (open_string shut_string)
set_option linter.unusedVariables false

theorem fnExactClassesOf_own : ownKnob Tryd.prog.godebug = none := by kernel_rfl
theorem fnExactClassesOf_laidOut : laidOutB Tryd.prog = true := by kernel_rfl

set_option maxRecDepth 100000 in
theorem fnExactClassesOf_lifted (os : Os) (started : os.Started) (H : Type) (enc : TypeId × Value → H) :
    ReturnsInHanded {} Tryd.checked os 5 .any (fun w args => (Rows.fnExactClassesOfSpec.pre enc Tryd.prog Tryd.f5 [] false w args ∧ laidMetH Tryd.prog Rows.fnExactClassesOfRow.laid w) ∧ sizedMet enc Tryd.prog Tryd.f5 (OpenSpec.ofChange Rows.fnExactClassesOfSpec) false w args)
      (Rows.fnExactClassesOfSpec.post enc Tryd.prog Tryd.f5 false true false false) := by
  refine returnsInHanded_of_change_and (C := Tryd.checked) (X := fun w _ => laidMetH Tryd.prog Rows.fnExactClassesOfRow.laid w) (fun _ _ _ hh h => h.of_heap hh) fnExactClassesOf_own started (by kernel_rfl) Tryd.func5
    (ChangeSpec.witness_shaped (enc := enc) (C := Tryd.checked) (os := os) (X := fun w _ => laidMetH Tryd.prog Rows.fnExactClassesOfRow.laid w) false (World.doorLaid Tryd.prog 400 os) #[.agg #[.slice none 0 0]] 8 rfl (World.shaped_of_RefB (by kernel_rfl) (by kernel_rfl)) (by kernel_rfl) (by kernel_rfl) (by kernel_rfl) (fnExactClassesOf_door_met os _)) ?_
  intro W base args ds gs before hval0 hW _ _ hL _
  have hval : ∀ (j : Nat) t v, Tryd.f5.params[j]? = some t → args[j]? = some v → Value.okWide Tryd.prog W .any base t v := hval0
  have hW' := hW
  obtain ⟨p, q, hA0, hV, rfl, hfz, hnd⟩ := hW
  have hA : DataW.TrodAll enc Tryd.prog W 0 (fun _ => true) true Tryd.f5.params.toList args.toList ds p := hA0
  rw [Tryd.params5] at hA hval
  obtain ⟨v0, vs0, d0, ds0, p0, q0, hargs, rfl, rfl, h0, r0⟩ := trodAll_cons hA
  obtain ⟨rfl, rfl, rfl⟩ := trodAll_nil r0
  obtain rfl : args = #[v0] := by cases args; simp_all
  have hVs : DataW.TrodVars enc Tryd.prog W (fun _ => true) ["loop.example/g00632/impl.vmShape"] gs q := hV
  obtain ⟨g0, rfl⟩ : ∃ g0, gs = [g0] := by
    have hlen := vars_len hVs
    match gs, hlen with
    | [g0], _ => exact ⟨g0, rfl⟩
  have k0 := h0
  have lt0 : ∀ x ∈ p0, x.block < W.heap.size := by obtain ⟨m, hm⟩ := k0; exact DataW.trod_lt m _ _ _ hm
  obtain ⟨a0, len0, cap0, z0, rfl, w0⟩ := open_laws_Program (hval 0 46 v0 rfl rfl) h0
  clear hA0 hval0
  refine (fnExactClassesOf_walk a0 len0 cap0 z0 W w0 (fnExactClassesOf_laid hL)).mono fun e W' ⟨he, bel⟩ => ?_
  subst he
  have hv' := vars_below fnExactClassesOf_laidOut bel (by kernel_rfl) hVs
  exact ⟨_, rfl, _, _, _, [], _, q, hW', trodAll_mk1 (shut_bool Tryd.underlying4 _), (trodAll_cons_mk (Below.trod fnExactClassesOf_laidOut (by kernel_rfl) (of_decide_eq_true (by kernel_rfl)) k0 bel lt0) trodAll_mk0), hv', bel.frame _, fun h => by cases h⟩

theorem fnExactClassesOf_said : Rows.FnExactClassesOfSaid :=
  OpenClaim.holds_of_wide 5 Tryd.f5 rfl rfl rfl rfl rfl rfl rfl ⟨rfl, rfl, rfl, rfl, rfl⟩ rfl rfl rfl rfl rfl (by kernel_rfl) Tryd.func5 (by kernel_rfl)
    (of_decide_eq_true (by kernel_rfl)) (by unfold Func.isWrapper; rw [if_neg (of_decide_eq_false (by kernel_rfl))]; exact ⟨rfl, rfl⟩)
    (fun os started H enc _ => fnExactClassesOf_lifted os started H enc)

theorem fnExactClassesOf_card : Rows.FnExactClassesOfCardSaid :=
  Claim7.holds_tied_plain_at .later [] [.wider] true (true, "c1b4f79f2de76f286816b8a4872f72f01670c2fc11d6e6cf5ce5f0adb49f5191") true
    fnExactClassesOf_said (fun _ h => by cases h) (by kernel_rfl) (fun _ h => by cases h) fnExactClassesOf_row_tie rfl ⟨rfl, rfl⟩ (by kernel_rfl) rfl
    (fun f fn hf hfn => by
      obtain rfl : f = 5 := Option.some.inj ((show Tryd.prog.funcNamed "loop.example/g00632/laws.FnExactClassesOf" = some 5 by kernel_rfl).symm.trans hf) |>.symm
      obtain rfl : fn = Tryd.f5 := (Option.some.inj (Tryd.func5.symm.trans hfn)).symm
      exact ⟨by kernel_rfl, fun j t ht => by
        rw [Tryd.params5] at ht
        have hm : t ∈ [46] := by simpa using Array.mem_of_getElem? ht
        have hall : ([46].all fun u => !Tryd.prog.wantsStandIn u) = true := by kernel_rfl
        exact (show Tryd.prog.wantsStandIn t = false by simpa using List.all_eq_true.1 hall t hm)⟩)
    (by kernel_rfl)
#print axioms fnExactClassesOf_card
end Go.Proofs.YtjgffnlmjmibgaaDoor
