/-
  fnExactCheckFresh: the law FnExactCheckFresh holds of the program at every input (the listed package-level variables as the text lays them): the frame round our walk.
-/
import Derived.Test.YtnffeclgboomoaaGreatDoorR01
import Derived.Test.YtnffeclgboomoaaGreatDoorR02
import Derived.Test.YtnffeclgboomoaaGreatDoorR03
import Derived.Test.YtnffeclgboomoaaGreatDoorR04
import Derived.Test.YtnffeclgboomoaaGreatDoorR05
import Derived.Test.YtnffeclgboomoaaGreatDoorR06
import Derived.Test.YtnffeclgboomoaaGreatDoorR07
import Derived.Test.YtnffeclgboomoaaGreatDoorR08
import Derived.Test.YtnffeclgboomoaaGreatDoorR09
import Derived.Test.YtnffeclgboomoaaGreatDoorR10
import Derived.Test.YtnffeclgboomoaaGreatDoorR11
import Derived.Test.YtnffeclgboomoaaGreatDoorR12
import Derived.Test.YtnffeclgboomoaaGreatDoorR13
import Derived.Test.YtnffeclgboomoaaGreatDoorR14
import Derived.Test.YtnffeclgboomoaaGreatDoorR15
import Derived.Test.YtnffeclgboomoaaGreatDoorR16
import Derived.Test.YtnffeclgboomoaaGreatDoorR17
import Derived.Test.YtnffeclgboomoaaGreatDoorR18
import Derived.Test.YtnffeclgboomoaaGreatDoorR19
import Derived.Test.YtnffeclgboomoaaGreatDoorR20
import Derived.Test.YtnffeclgboomoaaGreatDoorR21
import Derived.Test.YtnffeclgboomoaaGreatDoorR22
import Derived.Test.YtnffeclgboomoaaGreatDoorR23
import Derived.Test.YtnffeclgboomoaaGreatDoorR24
import Derived.Test.YtnffeclgboomoaaGreatDoorR25
import Derived.Test.YtnffeclgboomoaaGreatDoorR26
import Derived.Test.YtnffeclgboomoaaGreatDoorR27
import Derived.Test.YtnffeclgboomoaaGreatDoorR28
import Derived.Test.YtnffeclgboomoaaGreatDoorR29
import Derived.Test.YtnffeclgboomoaaGreatDoorR30
import Derived.Test.YtnffeclgboomoaaGreatDoorR31
import Derived.Test.YtnffeclgboomoaaGreatDoorR32
import Derived.Test.YtnffeclgboomoaaGreatDoorR33
import Derived.Test.YtnffeclgboomoaaGreatDoorR34
import Derived.Test.YtnffeclgboomoaaGreatDoorR35
import Derived.Test.YtnffeclgboomoaaGreatDoorR36
import Derived.Test.YtnffeclgboomoaaGreatDoorR37
import Derived.Test.YtnffeclgboomoaaGreatDoorR38
import Derived.Test.YtnffeclgboomoaaGreatDoorR39
import Derived.Test.YtnffeclgboomoaaGreatDoorR40
import Derived.Test.YtnffeclgboomoaaGreatDoorR41
import Derived.Test.YtnffeclgboomoaaGreatDoorR42
import Derived.Test.YtnffeclgboomoaaGreatDoorR43
import Derived.Test.YtnffeclgboomoaaGreatDoorR44
import Derived.Test.YtnffeclgboomoaaGreatDoorR45
import Derived.Test.YtnffeclgboomoaaGreatDoorR46
import Derived.Test.YtnffeclgboomoaaGreatDoorR47
import Derived.Test.YtnffeclgboomoaaGreatDoorR48
import Derived.Test.YtnffeclgboomoaaGreatDoorR49
import Derived.Test.YtnffeclgboomoaaGreatDoorRows
import Derived.Test.YtnffeclgboomoaaGreatDoorCards
import Derived.Test.YtnffeclgboomoaaGreatDoorTie
import Derived.WalkKit
import Derived.ProofKit
import Derived.OpenShut
import Derived.ShutString
import Derived.ChangeOld
import Derived.Below
import Derived.Stop.Joined
import Derived.SevenTiedAt
import Derived.LaidMore
namespace Go.Proofs.YtnffeclgboomoaaGreatDoor
open Go.ChangeShapes Go.WideShapes Go.ChangeAt Go.RowKit
open Go.ChangeMaps (open_string shut_string)
set_option linter.unusedVariables false

theorem fnExactCheckFresh_own : ownKnob Tryz.prog.godebug = none := by kernel_rfl
theorem fnExactCheckFresh_laidOut : laidOutB Tryz.prog = true := by kernel_rfl

set_option maxRecDepth 100000 in
theorem fnExactCheckFresh_lifted (os : Os) (started : os.Started) (H : Type) (enc : TypeId × Value → H) :
    ReturnsInHanded {} Tryz.checked os 6 .any (fun w args => (Rows.fnExactCheckFreshSpec.pre enc Tryz.prog Tryz.f6 [] false w args ∧ laidMetH Tryz.prog Rows.fnExactCheckFreshRow.laid w) ∧ sizedMet enc Tryz.prog Tryz.f6 (OpenSpec.ofChange Rows.fnExactCheckFreshSpec) false w args)
      (Rows.fnExactCheckFreshSpec.post enc Tryz.prog Tryz.f6 false true false false) := by
  refine returnsInHanded_of_change_and (C := Tryz.checked) (X := fun w _ => laidMetH Tryz.prog Rows.fnExactCheckFreshRow.laid w) (fun _ _ _ hh h => h.of_heap hh) fnExactCheckFresh_own started (by kernel_rfl) Tryz.func6
    (ChangeSpec.witness_shaped (enc := enc) (C := Tryz.checked) (os := os) (X := fun w _ => laidMetH Tryz.prog Rows.fnExactCheckFreshRow.laid w) false (World.doorLaid Tryz.prog 400 os) #[.agg #[.slice none 0 0]] 8 rfl (World.shaped_of_RefB (by kernel_rfl) (by kernel_rfl)) (by kernel_rfl) (by kernel_rfl) (by kernel_rfl) (fnExactCheckFresh_door_met os _)) ?_
  intro W base args ds gs before hval0 hW _ _ hL _
  have hval : ∀ (j : Nat) t v, Tryz.f6.params[j]? = some t → args[j]? = some v → Value.okWide Tryz.prog W .any base t v := hval0
  have hW' := hW
  obtain ⟨p, q, hA0, hV, rfl, hfz, hnd⟩ := hW
  have hA : DataW.TrodAll enc Tryz.prog W 0 (fun _ => true) true Tryz.f6.params.toList args.toList ds p := hA0
  rw [Tryz.params6] at hA hval
  obtain ⟨v0, vs0, d0, ds0, p0, q0, hargs, rfl, rfl, h0, r0⟩ := trodAll_cons hA
  obtain ⟨rfl, rfl, rfl⟩ := trodAll_nil r0
  obtain rfl : args = #[v0] := by cases args; simp_all
  have hVs : DataW.TrodVars enc Tryz.prog W (fun _ => true) ["loop.example/g00632/impl.vmShape"] gs q := hV
  obtain ⟨g0, rfl⟩ : ∃ g0, gs = [g0] := by
    have hlen := vars_len hVs
    match gs, hlen with
    | [g0], _ => exact ⟨g0, rfl⟩
  have k0 := h0
  have lt0 : ∀ x ∈ p0, x.block < W.heap.size := by obtain ⟨m, hm⟩ := k0; exact DataW.trod_lt m _ _ _ hm
  obtain ⟨a0, len0, cap0, z0, rfl, w0⟩ := open_laws_Program (hval 0 59 v0 rfl rfl) h0
  clear hA0 hval0
  refine (fnExactCheckFresh_walk a0 len0 cap0 z0 W w0 (fnExactCheckFresh_laid hL)).mono fun e W' ⟨he, bel⟩ => ?_
  subst he
  have hv' := vars_below fnExactCheckFresh_laidOut bel (by kernel_rfl) hVs
  exact ⟨_, rfl, _, _, _, [], _, q, hW', trodAll_mk1 (shut_bool Tryz.underlying4 _), (trodAll_cons_mk (Below.trod fnExactCheckFresh_laidOut (by kernel_rfl) (of_decide_eq_true (by kernel_rfl)) k0 bel lt0) trodAll_mk0), hv', bel.frame _, fun h => by cases h⟩

theorem fnExactCheckFresh_said : Rows.FnExactCheckFreshSaid :=
  OpenClaim.holds_of_wide 6 Tryz.f6 rfl rfl rfl rfl rfl rfl rfl ⟨rfl, rfl, rfl, rfl, rfl⟩ rfl rfl rfl rfl rfl (by kernel_rfl) Tryz.func6 (by kernel_rfl)
    (of_decide_eq_true (by kernel_rfl)) (by unfold Func.isWrapper; rw [if_neg (of_decide_eq_false (by kernel_rfl))]; exact ⟨rfl, rfl⟩)
    (fun os started H enc _ => fnExactCheckFresh_lifted os started H enc)

theorem fnExactCheckFresh_card : Rows.FnExactCheckFreshCardSaid :=
  Claim7.holds_tied_plain_at .later [] [.wider] true (true, "288334e78780d1d4cb8782c73ead989dba029f5048a3dd896d54074a93b3aabe") true
    fnExactCheckFresh_said (fun _ h => by cases h) (by kernel_rfl) (fun _ h => by cases h) fnExactCheckFresh_row_tie rfl ⟨rfl, rfl⟩ (by kernel_rfl) rfl
    (fun f fn hf hfn => by
      obtain rfl : f = 6 := Option.some.inj ((show Tryz.prog.funcNamed "loop.example/g00632/laws.FnExactCheckFresh" = some 6 by kernel_rfl).symm.trans hf) |>.symm
      obtain rfl : fn = Tryz.f6 := (Option.some.inj (Tryz.func6.symm.trans hfn)).symm
      exact ⟨by kernel_rfl, fun j t ht => by
        rw [Tryz.params6] at ht
        have hm : t ∈ [59] := by simpa using Array.mem_of_getElem? ht
        have hall : ([59].all fun u => !Tryz.prog.wantsStandIn u) = true := by kernel_rfl
        exact (show Tryz.prog.wantsStandIn t = false by simpa using List.all_eq_true.1 hall t hm)⟩)
    (by kernel_rfl)
#print axioms fnExactCheckFresh_card
end Go.Proofs.YtnffeclgboomoaaGreatDoor
