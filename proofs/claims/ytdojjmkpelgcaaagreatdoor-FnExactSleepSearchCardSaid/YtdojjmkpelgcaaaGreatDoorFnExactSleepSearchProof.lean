/-
  fnExactSleepSearch: the law FnExactSleepSearch holds of the program at every input (the listed package-level variables as the text lays them): the frame round our walk.
-/
import Derived.Test.YtdojjmkpelgcaaaGreatDoorL01
import Derived.Test.YtdojjmkpelgcaaaGreatDoorL02
import Derived.Test.YtdojjmkpelgcaaaGreatDoorL03
import Derived.Test.YtdojjmkpelgcaaaGreatDoorL04
import Derived.Test.YtdojjmkpelgcaaaGreatDoorL05
import Derived.Test.YtdojjmkpelgcaaaGreatDoorL06
import Derived.Test.YtdojjmkpelgcaaaGreatDoorL07
import Derived.Test.YtdojjmkpelgcaaaGreatDoorL08
import Derived.Test.YtdojjmkpelgcaaaGreatDoorL09
import Derived.Test.YtdojjmkpelgcaaaGreatDoorL10
import Derived.Test.YtdojjmkpelgcaaaGreatDoorL11
import Derived.Test.YtdojjmkpelgcaaaGreatDoorL12
import Derived.Test.YtdojjmkpelgcaaaGreatDoorL13
import Derived.Test.YtdojjmkpelgcaaaGreatDoorL14
import Derived.Test.YtdojjmkpelgcaaaGreatDoorL15
import Derived.Test.YtdojjmkpelgcaaaGreatDoorL16
import Derived.Test.YtdojjmkpelgcaaaGreatDoorL17
import Derived.Test.YtdojjmkpelgcaaaGreatDoorL18
import Derived.Test.YtdojjmkpelgcaaaGreatDoorL19
import Derived.Test.YtdojjmkpelgcaaaGreatDoorL20
import Derived.Test.YtdojjmkpelgcaaaGreatDoorL21
import Derived.Test.YtdojjmkpelgcaaaGreatDoorL22
import Derived.Test.YtdojjmkpelgcaaaGreatDoorL23
import Derived.Test.YtdojjmkpelgcaaaGreatDoorL24
import Derived.Test.YtdojjmkpelgcaaaGreatDoorL25
import Derived.Test.YtdojjmkpelgcaaaGreatDoorL26
import Derived.Test.YtdojjmkpelgcaaaGreatDoorL27
import Derived.Test.YtdojjmkpelgcaaaGreatDoorL28
import Derived.Test.YtdojjmkpelgcaaaGreatDoorL29
import Derived.Test.YtdojjmkpelgcaaaGreatDoorL30
import Derived.Test.YtdojjmkpelgcaaaGreatDoorL31
import Derived.Test.YtdojjmkpelgcaaaGreatDoorL32
import Derived.Test.YtdojjmkpelgcaaaGreatDoorL33
import Derived.Test.YtdojjmkpelgcaaaGreatDoorL34
import Derived.Test.YtdojjmkpelgcaaaGreatDoorL35
import Derived.Test.YtdojjmkpelgcaaaGreatDoorL36
import Derived.Test.YtdojjmkpelgcaaaGreatDoorL37
import Derived.Test.YtdojjmkpelgcaaaGreatDoorL38
import Derived.Test.YtdojjmkpelgcaaaGreatDoorL39
import Derived.Test.YtdojjmkpelgcaaaGreatDoorL40
import Derived.Test.YtdojjmkpelgcaaaGreatDoorL41
import Derived.Test.YtdojjmkpelgcaaaGreatDoorL42
import Derived.Test.YtdojjmkpelgcaaaGreatDoorL43
import Derived.Test.YtdojjmkpelgcaaaGreatDoorL44
import Derived.Test.YtdojjmkpelgcaaaGreatDoorL45
import Derived.Test.YtdojjmkpelgcaaaGreatDoorL46
import Derived.Test.YtdojjmkpelgcaaaGreatDoorL47
import Derived.Test.YtdojjmkpelgcaaaGreatDoorL48
import Derived.Test.YtdojjmkpelgcaaaGreatDoorL49
import Derived.Test.YtdojjmkpelgcaaaGreatDoorRows
import Derived.Test.YtdojjmkpelgcaaaGreatDoorCards
import Derived.Test.YtdojjmkpelgcaaaGreatDoorTie
import Derived.WalkKit
import Derived.ProofKit
import Derived.OpenShut
import Derived.ShutString
import Derived.ChangeOld
import Derived.Below
import Derived.Stop.Joined
import Derived.SevenTiedAt
import Derived.LaidMore
namespace Go.Proofs.YtdojjmkpelgcaaaGreatDoor
open Go.ChangeShapes Go.WideShapes Go.ChangeAt Go.RowKit
open Go.ChangeMaps (open_string shut_string)
set_option linter.unusedVariables false

theorem fnExactSleepSearch_own : ownKnob Tryz.prog.godebug = none := by kernel_rfl
theorem fnExactSleepSearch_laidOut : laidOutB Tryz.prog = true := by kernel_rfl

set_option maxRecDepth 100000 in
theorem fnExactSleepSearch_lifted (os : Os) (started : os.Started) (H : Type) (enc : TypeId × Value → H) :
    ReturnsInHanded {} Tryz.checked os 8 .any (fun w args => (Rows.fnExactSleepSearchSpec.pre enc Tryz.prog Tryz.f8 [] false w args ∧ laidMetH Tryz.prog Rows.fnExactSleepSearchRow.laid w) ∧ sizedMet enc Tryz.prog Tryz.f8 (OpenSpec.ofChange Rows.fnExactSleepSearchSpec) false w args)
      (Rows.fnExactSleepSearchSpec.post enc Tryz.prog Tryz.f8 false true false false) := by
  refine returnsInHanded_of_change_and (C := Tryz.checked) (X := fun w _ => laidMetH Tryz.prog Rows.fnExactSleepSearchRow.laid w) (fun _ _ _ hh h => h.of_heap hh) fnExactSleepSearch_own started (by kernel_rfl) Tryz.func8
    (ChangeSpec.witness_shaped (enc := enc) (C := Tryz.checked) (os := os) (X := fun w _ => laidMetH Tryz.prog Rows.fnExactSleepSearchRow.laid w) false (World.doorLaid Tryz.prog 400 os) #[.agg #[.slice none 0 0]] 8 rfl (World.shaped_of_RefB (by kernel_rfl) (by kernel_rfl)) (by kernel_rfl) (by kernel_rfl) (by kernel_rfl) (fnExactSleepSearch_door_met os _)) ?_
  intro W base args ds gs before hval0 hW _ _ hL _
  have hval : ∀ (j : Nat) t v, Tryz.f8.params[j]? = some t → args[j]? = some v → Value.okWide Tryz.prog W .any base t v := hval0
  have hW' := hW
  obtain ⟨p, q, hA0, hV, rfl, hfz, hnd⟩ := hW
  have hA : DataW.TrodAll enc Tryz.prog W 0 (fun _ => true) true Tryz.f8.params.toList args.toList ds p := hA0
  rw [Tryz.params8] at hA hval
  obtain ⟨v0, vs0, d0, ds0, p0, q0, hargs, rfl, rfl, h0, r0⟩ := trodAll_cons hA
  obtain ⟨rfl, rfl, rfl⟩ := trodAll_nil r0
  obtain rfl : args = #[v0] := by cases args; simp_all
  have hVs : DataW.TrodVars enc Tryz.prog W (fun _ => true) ["loop.example/g00632/impl.vmShape"] gs q := hV
  obtain ⟨g0, rfl⟩ : ∃ g0, gs = [g0] := by
    have hlen := vars_len hVs
    match gs, hlen with
    | [g0], _ => exact ⟨g0, rfl⟩
  have k0 := h0
  have lt0 : ∀ x ∈ p0, x.block < W.heap.size := by obtain ⟨m, hm⟩ := k0; exact DataW.trod_lt m _ _ _ hm
  obtain ⟨a0, len0, cap0, z0, rfl, w0⟩ := open_laws_Program (hval 0 75 v0 rfl rfl) h0
  clear hA0 hval0
  refine (fnExactSleepSearch_walk a0 len0 cap0 z0 W w0 (fnExactSleepSearch_laid hL)).mono fun e W' ⟨he, bel⟩ => ?_
  subst he
  have hv' := vars_below fnExactSleepSearch_laidOut bel (by kernel_rfl) hVs
  exact ⟨_, rfl, _, _, _, [], _, q, hW', trodAll_mk1 (shut_bool Tryz.underlying4 _), (trodAll_cons_mk (Below.trod fnExactSleepSearch_laidOut (by kernel_rfl) (of_decide_eq_true (by kernel_rfl)) k0 bel lt0) trodAll_mk0), hv', bel.frame _, fun h => by cases h⟩

theorem fnExactSleepSearch_said : Rows.FnExactSleepSearchSaid :=
  OpenClaim.holds_of_wide 8 Tryz.f8 rfl rfl rfl rfl rfl rfl rfl ⟨rfl, rfl, rfl, rfl, rfl⟩ rfl rfl rfl rfl rfl (by kernel_rfl) Tryz.func8 (by kernel_rfl)
    (of_decide_eq_true (by kernel_rfl)) (by unfold Func.isWrapper; rw [if_neg (of_decide_eq_false (by kernel_rfl))]; exact ⟨rfl, rfl⟩)
    (fun os started H enc _ => fnExactSleepSearch_lifted os started H enc)

theorem fnExactSleepSearch_card : Rows.FnExactSleepSearchCardSaid :=
  Claim7.holds_tied_plain_at .later [] [.wider] true (true, "19696f49b33394713768b7a243eed1edd988bf04c8f9cceba0061113fad22fa6") true
    fnExactSleepSearch_said (fun _ h => by cases h) (by kernel_rfl) (fun _ h => by cases h) fnExactSleepSearch_row_tie rfl ⟨rfl, rfl⟩ (by kernel_rfl) rfl
    (fun f fn hf hfn => by
      obtain rfl : f = 8 := Option.some.inj ((show Tryz.prog.funcNamed "loop.example/g00632/laws.FnExactSleepSearch" = some 8 by kernel_rfl).symm.trans hf) |>.symm
      obtain rfl : fn = Tryz.f8 := (Option.some.inj (Tryz.func8.symm.trans hfn)).symm
      exact ⟨by kernel_rfl, fun j t ht => by
        rw [Tryz.params8] at ht
        have hm : t ∈ [75] := by simpa using Array.mem_of_getElem? ht
        have hall : ([75].all fun u => !Tryz.prog.wantsStandIn u) = true := by kernel_rfl
        exact (show Tryz.prog.wantsStandIn t = false by simpa using List.all_eq_true.1 hall t hm)⟩)
    (by kernel_rfl)
#print axioms fnExactSleepSearch_card
end Go.Proofs.YtdojjmkpelgcaaaGreatDoor
