/-
  fnExactReadEntry: the law FnExactReadEntry holds of the program at every input (the listed package-level variables as the text lays them): the frame round our walk.
-/
import Derived.Test.YthlcdhddickdiaaDoorR01
import Derived.Test.YthlcdhddickdiaaDoorR02
import Derived.Test.YthlcdhddickdiaaDoorR03
import Derived.Test.YthlcdhddickdiaaDoorR04
import Derived.Test.YthlcdhddickdiaaDoorR05
import Derived.Test.YthlcdhddickdiaaDoorR06
import Derived.Test.YthlcdhddickdiaaDoorR07
import Derived.Test.YthlcdhddickdiaaDoorR08
import Derived.Test.YthlcdhddickdiaaDoorR09
import Derived.Test.YthlcdhddickdiaaDoorR10
import Derived.Test.YthlcdhddickdiaaDoorR11
import Derived.Test.YthlcdhddickdiaaDoorR12
import Derived.Test.YthlcdhddickdiaaDoorR13
import Derived.Test.YthlcdhddickdiaaDoorR14
import Derived.Test.YthlcdhddickdiaaDoorR15
import Derived.Test.YthlcdhddickdiaaDoorR16
import Derived.Test.YthlcdhddickdiaaDoorR17
import Derived.Test.YthlcdhddickdiaaDoorR18
import Derived.Test.YthlcdhddickdiaaDoorR19
import Derived.Test.YthlcdhddickdiaaDoorR20
import Derived.Test.YthlcdhddickdiaaDoorR21
import Derived.Test.YthlcdhddickdiaaDoorR22
import Derived.Test.YthlcdhddickdiaaDoorR23
import Derived.Test.YthlcdhddickdiaaDoorR24
import Derived.Test.YthlcdhddickdiaaDoorR25
import Derived.Test.YthlcdhddickdiaaDoorR26
import Derived.Test.YthlcdhddickdiaaDoorR27
import Derived.Test.YthlcdhddickdiaaDoorR28
import Derived.Test.YthlcdhddickdiaaDoorR29
import Derived.Test.YthlcdhddickdiaaDoorR30
import Derived.Test.YthlcdhddickdiaaDoorR31
import Derived.Test.YthlcdhddickdiaaDoorR32
import Derived.Test.YthlcdhddickdiaaDoorR33
import Derived.Test.YthlcdhddickdiaaDoorR34
import Derived.Test.YthlcdhddickdiaaDoorR35
import Derived.Test.YthlcdhddickdiaaDoorR36
import Derived.Test.YthlcdhddickdiaaDoorR37
import Derived.Test.YthlcdhddickdiaaDoorR38
import Derived.Test.YthlcdhddickdiaaDoorR39
import Derived.Test.YthlcdhddickdiaaDoorR40
import Derived.Test.YthlcdhddickdiaaDoorR41
import Derived.Test.YthlcdhddickdiaaDoorR42
import Derived.Test.YthlcdhddickdiaaDoorR43
import Derived.Test.YthlcdhddickdiaaDoorR44
import Derived.Test.YthlcdhddickdiaaDoorR45
import Derived.Test.YthlcdhddickdiaaDoorR46
import Derived.Test.YthlcdhddickdiaaDoorR47
import Derived.Test.YthlcdhddickdiaaDoorR48
import Derived.Test.YthlcdhddickdiaaDoorR49
import Derived.Test.YthlcdhddickdiaaDoorRows
import Derived.Test.YthlcdhddickdiaaDoorCards
import Derived.Test.YthlcdhddickdiaaDoorTie
import Derived.WalkKit
import Derived.ProofKit
import Derived.OpenShut
import Derived.ShutString
import Derived.ChangeOld
import Derived.Below
import Derived.Stop.Joined
import Derived.SevenTiedAt
import Derived.LaidMore
namespace Go.Proofs.YthlcdhddickdiaaDoor
open Go.ChangeShapes Go.WideShapes Go.ChangeAt Go.RowKit
open Go.ChangeMaps (open_string shut_string)
set_option linter.unusedVariables false

theorem fnExactReadEntry_own : ownKnob Tryd.prog.godebug = none := by kernel_rfl
theorem fnExactReadEntry_laidOut : laidOutB Tryd.prog = true := by kernel_rfl

set_option maxRecDepth 100000 in
theorem fnExactReadEntry_lifted (os : Os) (started : os.Started) (H : Type) (enc : TypeId × Value → H) :
    ReturnsInHanded {} Tryd.checked os 4 .any (fun w args => (Rows.fnExactReadEntrySpec.pre enc Tryd.prog Tryd.f4 [] false w args ∧ laidMetH Tryd.prog Rows.fnExactReadEntryRow.laid w) ∧ sizedMet enc Tryd.prog Tryd.f4 (OpenSpec.ofChange Rows.fnExactReadEntrySpec) false w args)
      (Rows.fnExactReadEntrySpec.post enc Tryd.prog Tryd.f4 false true false false) := by
  refine returnsInHanded_of_change_and (C := Tryd.checked) (X := fun w _ => laidMetH Tryd.prog Rows.fnExactReadEntryRow.laid w) (fun _ _ _ hh h => h.of_heap hh) fnExactReadEntry_own started (by kernel_rfl) Tryd.func4
    (ChangeSpec.witness_shaped (enc := enc) (C := Tryd.checked) (os := os) (X := fun w _ => laidMetH Tryd.prog Rows.fnExactReadEntryRow.laid w) false (World.doorLaid Tryd.prog 400 os) #[.string ByteArray.empty] 8 rfl (World.shaped_of_RefB (by kernel_rfl) (by kernel_rfl)) (by kernel_rfl) (by kernel_rfl) (by kernel_rfl) (fnExactReadEntry_door_met os _)) ?_
  intro W base args ds gs before hval0 hW _ _ hL _
  have hval : ∀ (j : Nat) t v, Tryd.f4.params[j]? = some t → args[j]? = some v → Value.okWide Tryd.prog W .any base t v := hval0
  have hW' := hW
  obtain ⟨p, q, hA0, hV, rfl, hfz, hnd⟩ := hW
  have hA : DataW.TrodAll enc Tryd.prog W 0 (fun _ => true) true Tryd.f4.params.toList args.toList ds p := hA0
  rw [Tryd.params4] at hA hval
  obtain ⟨v0, vs0, d0, ds0, p0, q0, hargs, rfl, rfl, h0, r0⟩ := trodAll_cons hA
  obtain ⟨rfl, rfl, rfl⟩ := trodAll_nil r0
  obtain rfl : args = #[v0] := by cases args; simp_all
  have hVs : DataW.TrodVars enc Tryd.prog W (fun _ => true) ["loop.example/g00632/impl.vmShape"] gs q := hV
  obtain ⟨g0, rfl⟩ : ∃ g0, gs = [g0] := by
    have hlen := vars_len hVs
    match gs, hlen with
    | [g0], _ => exact ⟨g0, rfl⟩
  obtain ⟨a0, rfl, rfl, rfl, w0⟩ := open_string Tryd.underlying9 (hval 0 9 v0 rfl rfl) h0
  clear hA0 hval0
  refine (fnExactReadEntry_walk a0 w0 W (fnExactReadEntry_laid hL)).mono fun e W' ⟨he, bel⟩ => ?_
  subst he
  have hv' := vars_below fnExactReadEntry_laidOut bel (by kernel_rfl) hVs
  exact ⟨_, rfl, _, _, _, [], _, q, hW', trodAll_mk1 (shut_bool Tryd.underlying4 _), (trodAll_cons_mk (shut_string Tryd.underlying9 w0) trodAll_mk0), hv', bel.frame _, fun h => by cases h⟩

theorem fnExactReadEntry_said : Rows.FnExactReadEntrySaid :=
  OpenClaim.holds_of_wide 4 Tryd.f4 rfl rfl rfl rfl rfl rfl rfl ⟨rfl, rfl, rfl, rfl, rfl⟩ rfl rfl rfl rfl rfl (by kernel_rfl) Tryd.func4 (by kernel_rfl)
    (of_decide_eq_true (by kernel_rfl)) (by unfold Func.isWrapper; rw [if_neg (of_decide_eq_false (by kernel_rfl))]; exact ⟨rfl, rfl⟩)
    (fun os started H enc _ => fnExactReadEntry_lifted os started H enc)

theorem fnExactReadEntry_card : Rows.FnExactReadEntryCardSaid :=
  Claim7.holds_tied_plain_at .later [] [.handle, .wider] true (true, "ef15ae91c710c50f7aef3181bbf445c9c0000124185192c8bac26d78c8829fbb") true
    fnExactReadEntry_said (fun _ h => by cases h) (by kernel_rfl) (fun _ h => by cases h) fnExactReadEntry_row_tie rfl ⟨rfl, rfl⟩ (by kernel_rfl) rfl
    (fun f fn hf hfn => by
      obtain rfl : f = 4 := Option.some.inj ((show Tryd.prog.funcNamed "loop.example/g00632/laws.FnExactReadEntry" = some 4 by kernel_rfl).symm.trans hf) |>.symm
      obtain rfl : fn = Tryd.f4 := (Option.some.inj (Tryd.func4.symm.trans hfn)).symm
      exact ⟨by kernel_rfl, fun j t ht => by
        rw [Tryd.params4] at ht
        have hm : t ∈ [9] := by simpa using Array.mem_of_getElem? ht
        have hall : ([9].all fun u => !Tryd.prog.wantsStandIn u) = true := by kernel_rfl
        exact (show Tryd.prog.wantsStandIn t = false by simpa using List.all_eq_true.1 hall t hm)⟩)
    (by kernel_rfl)
#print axioms fnExactReadEntry_card
end Go.Proofs.YthlcdhddickdiaaDoor
