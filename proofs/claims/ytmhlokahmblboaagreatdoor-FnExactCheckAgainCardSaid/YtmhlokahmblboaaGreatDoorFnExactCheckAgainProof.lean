/-
  fnExactCheckAgain: the law FnExactCheckAgain holds of the program at every input (the listed package-level variables as the text lays them): the frame round our walk.
-/
import Derived.Test.YtmhlokahmblboaaGreatDoorQ01
import Derived.Test.YtmhlokahmblboaaGreatDoorQ02
import Derived.Test.YtmhlokahmblboaaGreatDoorQ03
import Derived.Test.YtmhlokahmblboaaGreatDoorQ04
import Derived.Test.YtmhlokahmblboaaGreatDoorQ05
import Derived.Test.YtmhlokahmblboaaGreatDoorQ06
import Derived.Test.YtmhlokahmblboaaGreatDoorQ07
import Derived.Test.YtmhlokahmblboaaGreatDoorQ08
import Derived.Test.YtmhlokahmblboaaGreatDoorQ09
import Derived.Test.YtmhlokahmblboaaGreatDoorQ10
import Derived.Test.YtmhlokahmblboaaGreatDoorQ11
import Derived.Test.YtmhlokahmblboaaGreatDoorQ12
import Derived.Test.YtmhlokahmblboaaGreatDoorQ13
import Derived.Test.YtmhlokahmblboaaGreatDoorQ14
import Derived.Test.YtmhlokahmblboaaGreatDoorQ15
import Derived.Test.YtmhlokahmblboaaGreatDoorQ16
import Derived.Test.YtmhlokahmblboaaGreatDoorQ17
import Derived.Test.YtmhlokahmblboaaGreatDoorQ18
import Derived.Test.YtmhlokahmblboaaGreatDoorQ19
import Derived.Test.YtmhlokahmblboaaGreatDoorQ20
import Derived.Test.YtmhlokahmblboaaGreatDoorQ21
import Derived.Test.YtmhlokahmblboaaGreatDoorQ22
import Derived.Test.YtmhlokahmblboaaGreatDoorQ23
import Derived.Test.YtmhlokahmblboaaGreatDoorQ24
import Derived.Test.YtmhlokahmblboaaGreatDoorQ25
import Derived.Test.YtmhlokahmblboaaGreatDoorQ26
import Derived.Test.YtmhlokahmblboaaGreatDoorQ27
import Derived.Test.YtmhlokahmblboaaGreatDoorQ28
import Derived.Test.YtmhlokahmblboaaGreatDoorQ29
import Derived.Test.YtmhlokahmblboaaGreatDoorQ30
import Derived.Test.YtmhlokahmblboaaGreatDoorQ31
import Derived.Test.YtmhlokahmblboaaGreatDoorQ32
import Derived.Test.YtmhlokahmblboaaGreatDoorQ33
import Derived.Test.YtmhlokahmblboaaGreatDoorQ34
import Derived.Test.YtmhlokahmblboaaGreatDoorQ35
import Derived.Test.YtmhlokahmblboaaGreatDoorQ36
import Derived.Test.YtmhlokahmblboaaGreatDoorQ37
import Derived.Test.YtmhlokahmblboaaGreatDoorQ38
import Derived.Test.YtmhlokahmblboaaGreatDoorQ39
import Derived.Test.YtmhlokahmblboaaGreatDoorQ40
import Derived.Test.YtmhlokahmblboaaGreatDoorQ41
import Derived.Test.YtmhlokahmblboaaGreatDoorQ42
import Derived.Test.YtmhlokahmblboaaGreatDoorQ43
import Derived.Test.YtmhlokahmblboaaGreatDoorQ44
import Derived.Test.YtmhlokahmblboaaGreatDoorQ45
import Derived.Test.YtmhlokahmblboaaGreatDoorQ46
import Derived.Test.YtmhlokahmblboaaGreatDoorQ47
import Derived.Test.YtmhlokahmblboaaGreatDoorQ48
import Derived.Test.YtmhlokahmblboaaGreatDoorQ49
import Derived.Test.YtmhlokahmblboaaGreatDoorRows
import Derived.Test.YtmhlokahmblboaaGreatDoorCards
import Derived.Test.YtmhlokahmblboaaGreatDoorTie
import Derived.WalkKit
import Derived.ProofKit
import Derived.OpenShut
import Derived.ShutString
import Derived.ChangeOld
import Derived.Below
import Derived.Stop.Joined
import Derived.SevenTiedAt
import Derived.LaidMore
namespace Go.Proofs.YtmhlokahmblboaaGreatDoor
open Go.ChangeShapes Go.WideShapes Go.ChangeAt Go.RowKit
open Go.ChangeMaps (open_string shut_string)
set_option linter.unusedVariables false

theorem fnExactCheckAgain_own : ownKnob Tryz.prog.godebug = none := by kernel_rfl
theorem fnExactCheckAgain_laidOut : laidOutB Tryz.prog = true := by kernel_rfl

set_option maxRecDepth 100000 in
theorem fnExactCheckAgain_lifted (os : Os) (started : os.Started) (H : Type) (enc : TypeId × Value → H) :
    ReturnsInHanded {} Tryz.checked os 4 .any (fun w args => (Rows.fnExactCheckAgainSpec.pre enc Tryz.prog Tryz.f4 [] false w args ∧ laidMetH Tryz.prog Rows.fnExactCheckAgainRow.laid w) ∧ sizedMet enc Tryz.prog Tryz.f4 (OpenSpec.ofChange Rows.fnExactCheckAgainSpec) false w args)
      (Rows.fnExactCheckAgainSpec.post enc Tryz.prog Tryz.f4 false true false false) := by
  refine returnsInHanded_of_change_and (C := Tryz.checked) (X := fun w _ => laidMetH Tryz.prog Rows.fnExactCheckAgainRow.laid w) (fun _ _ _ hh h => h.of_heap hh) fnExactCheckAgain_own started (by kernel_rfl) Tryz.func4
    (ChangeSpec.witness_shaped (enc := enc) (C := Tryz.checked) (os := os) (X := fun w _ => laidMetH Tryz.prog Rows.fnExactCheckAgainRow.laid w) false (World.doorLaid Tryz.prog 400 os) #[.agg #[.slice none 0 0], .agg #[.slice none 0 0]] 8 rfl (World.shaped_of_RefB (by kernel_rfl) (by kernel_rfl)) (by kernel_rfl) (by kernel_rfl) (by kernel_rfl) (fnExactCheckAgain_door_met os _)) ?_
  intro W base args ds gs before hval0 hW _ _ hL _
  have hval : ∀ (j : Nat) t v, Tryz.f4.params[j]? = some t → args[j]? = some v → Value.okWide Tryz.prog W .any base t v := hval0
  have hW' := hW
  obtain ⟨p, q, hA0, hV, rfl, hfz, hnd⟩ := hW
  have hA : DataW.TrodAll enc Tryz.prog W 0 (fun _ => true) true Tryz.f4.params.toList args.toList ds p := hA0
  rw [Tryz.params4] at hA hval
  obtain ⟨v0, vs0, d0, ds0, p0, q0, hargs, rfl, rfl, h0, r0⟩ := trodAll_cons hA
  obtain ⟨v1, vs1, d1, ds1, p1, q1, rfl, rfl, rfl, h1, r1⟩ := trodAll_cons r0
  obtain ⟨rfl, rfl, rfl⟩ := trodAll_nil r1
  obtain rfl : args = #[v0, v1] := by cases args; simp_all
  have hVs : DataW.TrodVars enc Tryz.prog W (fun _ => true) ["loop.example/g00632/impl.vmShape"] gs q := hV
  obtain ⟨g0, rfl⟩ : ∃ g0, gs = [g0] := by
    have hlen := vars_len hVs
    match gs, hlen with
    | [g0], _ => exact ⟨g0, rfl⟩
  have k0 := h0
  have lt0 : ∀ x ∈ p0, x.block < W.heap.size := by obtain ⟨m, hm⟩ := k0; exact DataW.trod_lt m _ _ _ hm
  obtain ⟨a0, len0, cap0, z0, rfl, w0⟩ := open_laws_Program (hval 0 37 v0 rfl rfl) h0
  have k1 := h1
  have lt1 : ∀ x ∈ p1, x.block < W.heap.size := by obtain ⟨m, hm⟩ := k1; exact DataW.trod_lt m _ _ _ hm
  obtain ⟨a1, len1, cap1, z1, rfl, w1⟩ := open_laws_Memo (hval 1 40 v1 rfl rfl) h1
  clear hA0 hval0
  refine (fnExactCheckAgain_walk a0 len0 cap0 z0 a1 len1 cap1 z1 W w0 w1 (fnExactCheckAgain_laid hL)).mono fun e W' ⟨he, bel⟩ => ?_
  subst he
  have hv' := vars_below fnExactCheckAgain_laidOut bel (by kernel_rfl) hVs
  exact ⟨_, rfl, _, _, _, [], _, q, hW', trodAll_mk1 (shut_bool Tryz.underlying4 _), (trodAll_cons_mk (Below.trod fnExactCheckAgain_laidOut (by kernel_rfl) (of_decide_eq_true (by kernel_rfl)) k0 bel lt0) (trodAll_cons_mk (Below.trod fnExactCheckAgain_laidOut (by kernel_rfl) (of_decide_eq_true (by kernel_rfl)) k1 bel lt1) trodAll_mk0)), hv', bel.frame _, fun h => by cases h⟩

theorem fnExactCheckAgain_said : Rows.FnExactCheckAgainSaid :=
  OpenClaim.holds_of_wide 4 Tryz.f4 rfl rfl rfl rfl rfl rfl rfl ⟨rfl, rfl, rfl, rfl, rfl⟩ rfl rfl rfl rfl rfl (by kernel_rfl) Tryz.func4 (by kernel_rfl)
    (of_decide_eq_true (by kernel_rfl)) (by unfold Func.isWrapper; rw [if_neg (of_decide_eq_false (by kernel_rfl))]; exact ⟨rfl, rfl⟩)
    (fun os started H enc _ => fnExactCheckAgain_lifted os started H enc)

theorem fnExactCheckAgain_card : Rows.FnExactCheckAgainCardSaid :=
  Claim7.holds_tied_plain_at .later [] [.wider] true (true, "4e9c9765a13b3e8b2e3177d8225395e21eeb5d9bc22e10c5d02b39a061efe1ef") true
    fnExactCheckAgain_said (fun _ h => by cases h) (by kernel_rfl) (fun _ h => by cases h) fnExactCheckAgain_row_tie rfl ⟨rfl, rfl⟩ (by kernel_rfl) rfl
    (fun f fn hf hfn => by
      obtain rfl : f = 4 := Option.some.inj ((show Tryz.prog.funcNamed "loop.example/g00632/laws.FnExactCheckAgain" = some 4 by kernel_rfl).symm.trans hf) |>.symm
      obtain rfl : fn = Tryz.f4 := (Option.some.inj (Tryz.func4.symm.trans hfn)).symm
      exact ⟨by kernel_rfl, fun j t ht => by
        rw [Tryz.params4] at ht
        have hm : t ∈ [37, 40] := by simpa using Array.mem_of_getElem? ht
        have hall : ([37, 40].all fun u => !Tryz.prog.wantsStandIn u) = true := by kernel_rfl
        exact (show Tryz.prog.wantsStandIn t = false by simpa using List.all_eq_true.1 hall t hm)⟩)
    (by kernel_rfl)
#print axioms fnExactCheckAgain_card
end Go.Proofs.YtmhlokahmblboaaGreatDoor
