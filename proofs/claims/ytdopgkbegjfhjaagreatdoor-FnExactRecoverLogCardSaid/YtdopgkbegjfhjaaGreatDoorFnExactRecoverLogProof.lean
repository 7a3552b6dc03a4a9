/-
  fnExactRecoverLog: the law FnExactRecoverLog holds of the program at every input (the listed package-level variables as the text lays them): the frame round our walk.
-/
import Derived.Test.YtdopgkbegjfhjaaGreatDoorR01
import Derived.Test.YtdopgkbegjfhjaaGreatDoorR02
import Derived.Test.YtdopgkbegjfhjaaGreatDoorR03
import Derived.Test.YtdopgkbegjfhjaaGreatDoorR04
import Derived.Test.YtdopgkbegjfhjaaGreatDoorR05
import Derived.Test.YtdopgkbegjfhjaaGreatDoorR06
import Derived.Test.YtdopgkbegjfhjaaGreatDoorR07
import Derived.Test.YtdopgkbegjfhjaaGreatDoorR08
import Derived.Test.YtdopgkbegjfhjaaGreatDoorR09
import Derived.Test.YtdopgkbegjfhjaaGreatDoorR10
import Derived.Test.YtdopgkbegjfhjaaGreatDoorR11
import Derived.Test.YtdopgkbegjfhjaaGreatDoorR12
import Derived.Test.YtdopgkbegjfhjaaGreatDoorR13
import Derived.Test.YtdopgkbegjfhjaaGreatDoorR14
import Derived.Test.YtdopgkbegjfhjaaGreatDoorR15
import Derived.Test.YtdopgkbegjfhjaaGreatDoorR16
import Derived.Test.YtdopgkbegjfhjaaGreatDoorR17
import Derived.Test.YtdopgkbegjfhjaaGreatDoorR18
import Derived.Test.YtdopgkbegjfhjaaGreatDoorR19
import Derived.Test.YtdopgkbegjfhjaaGreatDoorR20
import Derived.Test.YtdopgkbegjfhjaaGreatDoorR21
import Derived.Test.YtdopgkbegjfhjaaGreatDoorR22
import Derived.Test.YtdopgkbegjfhjaaGreatDoorR23
import Derived.Test.YtdopgkbegjfhjaaGreatDoorR24
import Derived.Test.YtdopgkbegjfhjaaGreatDoorR25
import Derived.Test.YtdopgkbegjfhjaaGreatDoorR26
import Derived.Test.YtdopgkbegjfhjaaGreatDoorR27
import Derived.Test.YtdopgkbegjfhjaaGreatDoorR28
import Derived.Test.YtdopgkbegjfhjaaGreatDoorR29
import Derived.Test.YtdopgkbegjfhjaaGreatDoorR30
import Derived.Test.YtdopgkbegjfhjaaGreatDoorR31
import Derived.Test.YtdopgkbegjfhjaaGreatDoorR32
import Derived.Test.YtdopgkbegjfhjaaGreatDoorR33
import Derived.Test.YtdopgkbegjfhjaaGreatDoorR34
import Derived.Test.YtdopgkbegjfhjaaGreatDoorR35
import Derived.Test.YtdopgkbegjfhjaaGreatDoorR36
import Derived.Test.YtdopgkbegjfhjaaGreatDoorR37
import Derived.Test.YtdopgkbegjfhjaaGreatDoorR38
import Derived.Test.YtdopgkbegjfhjaaGreatDoorR39
import Derived.Test.YtdopgkbegjfhjaaGreatDoorR40
import Derived.Test.YtdopgkbegjfhjaaGreatDoorR41
import Derived.Test.YtdopgkbegjfhjaaGreatDoorR42
import Derived.Test.YtdopgkbegjfhjaaGreatDoorR43
import Derived.Test.YtdopgkbegjfhjaaGreatDoorR44
import Derived.Test.YtdopgkbegjfhjaaGreatDoorR45
import Derived.Test.YtdopgkbegjfhjaaGreatDoorR46
import Derived.Test.YtdopgkbegjfhjaaGreatDoorR47
import Derived.Test.YtdopgkbegjfhjaaGreatDoorR48
import Derived.Test.YtdopgkbegjfhjaaGreatDoorR49
import Derived.Test.YtdopgkbegjfhjaaGreatDoorR55
import Derived.Test.YtdopgkbegjfhjaaGreatDoorR56
import Derived.Test.YtdopgkbegjfhjaaGreatDoorR57
import Derived.Test.YtdopgkbegjfhjaaGreatDoorRows
import Derived.Test.YtdopgkbegjfhjaaGreatDoorCards
import Derived.Test.YtdopgkbegjfhjaaGreatDoorTie
import Derived.WalkKit
import Derived.ProofKit
import Derived.OpenShut
import Derived.ShutString
import Derived.ChangeOld
import Derived.Below
import Derived.Stop.Joined
import Derived.SevenTiedAt
import Derived.LaidMore
namespace Go.Proofs.YtdopgkbegjfhjaaGreatDoor
open Go.ChangeShapes Go.WideShapes Go.ChangeAt Go.RowKit
open Go.ChangeMaps (open_string shut_string)
set_option linter.unusedVariables false

theorem fnExactRecoverLog_own : ownKnob Tryz.prog.godebug = none := by kernel_rfl
theorem fnExactRecoverLog_laidOut : laidOutB Tryz.prog = true := by kernel_rfl

set_option maxRecDepth 100000 in
theorem fnExactRecoverLog_lifted (os : Os) (started : os.Started) (H : Type) (enc : TypeId × Value → H) :
    ReturnsInHanded {} Tryz.checked os 9 .any (fun w args => (Rows.fnExactRecoverLogSpec.pre enc Tryz.prog Tryz.f9 [] false w args ∧ laidMetH Tryz.prog Rows.fnExactRecoverLogRow.laid w) ∧ sizedMet enc Tryz.prog Tryz.f9 (OpenSpec.ofChange Rows.fnExactRecoverLogSpec) false w args)
      (Rows.fnExactRecoverLogSpec.post enc Tryz.prog Tryz.f9 false true false false) := by
  refine returnsInHanded_of_change_and (C := Tryz.checked) (X := fun w _ => laidMetH Tryz.prog Rows.fnExactRecoverLogRow.laid w) (fun _ _ _ hh h => h.of_heap hh) fnExactRecoverLog_own started (by kernel_rfl) Tryz.func9
    (ChangeSpec.witness_shaped (enc := enc) (C := Tryz.checked) (os := os) (X := fun w _ => laidMetH Tryz.prog Rows.fnExactRecoverLogRow.laid w) false (World.doorLaid Tryz.prog 400 os) #[.agg #[.string ByteArray.empty, .string ByteArray.empty]] 8 rfl (World.shaped_of_RefB (by kernel_rfl) (by kernel_rfl)) (by kernel_rfl) (by kernel_rfl) (by kernel_rfl) (fnExactRecoverLog_door_met os _)) ?_
  intro W base args ds gs before hval0 hW _ _ hL _
  have hval : ∀ (j : Nat) t v, Tryz.f9.params[j]? = some t → args[j]? = some v → Value.okWide Tryz.prog W .any base t v := hval0
  have hW' := hW
  obtain ⟨p, q, hA0, hV, rfl, hfz, hnd⟩ := hW
  have hA : DataW.TrodAll enc Tryz.prog W 0 (fun _ => true) true Tryz.f9.params.toList args.toList ds p := hA0
  rw [Tryz.params9] at hA hval
  obtain ⟨v0, vs0, d0, ds0, p0, q0, hargs, rfl, rfl, h0, r0⟩ := trodAll_cons hA
  obtain ⟨rfl, rfl, rfl⟩ := trodAll_nil r0
  obtain rfl : args = #[v0] := by cases args; simp_all
  have hVs : DataW.TrodVars enc Tryz.prog W (fun _ => true) ["loop.example/g00632/impl.vmShape"] gs q := hV
  obtain ⟨g0, rfl⟩ : ∃ g0, gs = [g0] := by
    have hlen := vars_len hVs
    match gs, hlen with
    | [g0], _ => exact ⟨g0, rfl⟩
  have k0 := h0
  have lt0 : ∀ x ∈ p0, x.block < W.heap.size := by obtain ⟨m, hm⟩ := k0; exact DataW.trod_lt m _ _ _ hm
  obtain ⟨y0, rfl, w0⟩ := open_laws_Disk (hval 0 46 v0 rfl rfl) h0
  clear hA0 hval0
  refine (fnExactRecoverLog_walk y0 W w0 (fnExactRecoverLog_laid hL)).mono fun e W' ⟨he, bel⟩ => ?_
  subst he
  have hv' := vars_below fnExactRecoverLog_laidOut bel (by kernel_rfl) hVs
  exact ⟨_, rfl, _, _, _, [], _, q, hW', trodAll_mk1 (shut_bool Tryz.underlying4 _), (trodAll_cons_mk (Below.trod fnExactRecoverLog_laidOut (by kernel_rfl) (of_decide_eq_true (by kernel_rfl)) k0 bel lt0) trodAll_mk0), hv', bel.frame _, fun h => by cases h⟩

theorem fnExactRecoverLog_said : Rows.FnExactRecoverLogSaid :=
  OpenClaim.holds_of_wide 9 Tryz.f9 rfl rfl rfl rfl rfl rfl rfl ⟨rfl, rfl, rfl, rfl, rfl⟩ rfl rfl rfl rfl rfl (by kernel_rfl) Tryz.func9 (by kernel_rfl)
    (of_decide_eq_true (by kernel_rfl)) (by unfold Func.isWrapper; rw [if_neg (of_decide_eq_false (by kernel_rfl))]; exact ⟨rfl, rfl⟩)
    (fun os started H enc _ => fnExactRecoverLog_lifted os started H enc)

theorem fnExactRecoverLog_card : Rows.FnExactRecoverLogCardSaid :=
  Claim7.holds_tied_plain_at .later [] [.handle, .wider] true (true, "701487866efb7161ec3fbbd354db3fc2d9671e865f9307db2af74a979d5d9415") true
    fnExactRecoverLog_said (fun _ h => by cases h) (by kernel_rfl) (fun _ h => by cases h) fnExactRecoverLog_row_tie rfl ⟨rfl, rfl⟩ (by kernel_rfl) rfl
    (fun f fn hf hfn => by
      obtain rfl : f = 9 := Option.some.inj ((show Tryz.prog.funcNamed "loop.example/g00632/laws.FnExactRecoverLog" = some 9 by kernel_rfl).symm.trans hf) |>.symm
      obtain rfl : fn = Tryz.f9 := (Option.some.inj (Tryz.func9.symm.trans hfn)).symm
      exact ⟨by kernel_rfl, fun j t ht => by
        rw [Tryz.params9] at ht
        have hm : t ∈ [46] := by simpa using Array.mem_of_getElem? ht
        have hall : ([46].all fun u => !Tryz.prog.wantsStandIn u) = true := by kernel_rfl
        exact (show Tryz.prog.wantsStandIn t = false by simpa using List.all_eq_true.1 hall t hm)⟩)
    (by kernel_rfl)
#print axioms fnExactRecoverLog_card
end Go.Proofs.YtdopgkbegjfhjaaGreatDoor
