/-
  fnExactMemoTrue: the law FnExactMemoTrue holds of the program at every input (the listed package-level variables as the text lays them): the frame round our walk.
-/
import Derived.Test.YtnffeclgboomoaaGreatDoorT01
import Derived.Test.YtnffeclgboomoaaGreatDoorT02
import Derived.Test.YtnffeclgboomoaaGreatDoorT03
import Derived.Test.YtnffeclgboomoaaGreatDoorT04
import Derived.Test.YtnffeclgboomoaaGreatDoorT05
import Derived.Test.YtnffeclgboomoaaGreatDoorT06
import Derived.Test.YtnffeclgboomoaaGreatDoorT07
import Derived.Test.YtnffeclgboomoaaGreatDoorT08
import Derived.Test.YtnffeclgboomoaaGreatDoorT09
import Derived.Test.YtnffeclgboomoaaGreatDoorT10
import Derived.Test.YtnffeclgboomoaaGreatDoorT11
import Derived.Test.YtnffeclgboomoaaGreatDoorT12
import Derived.Test.YtnffeclgboomoaaGreatDoorT13
import Derived.Test.YtnffeclgboomoaaGreatDoorT14
import Derived.Test.YtnffeclgboomoaaGreatDoorT15
import Derived.Test.YtnffeclgboomoaaGreatDoorT16
import Derived.Test.YtnffeclgboomoaaGreatDoorT17
import Derived.Test.YtnffeclgboomoaaGreatDoorT18
import Derived.Test.YtnffeclgboomoaaGreatDoorT19
import Derived.Test.YtnffeclgboomoaaGreatDoorT20
import Derived.Test.YtnffeclgboomoaaGreatDoorT21
import Derived.Test.YtnffeclgboomoaaGreatDoorT22
import Derived.Test.YtnffeclgboomoaaGreatDoorT23
import Derived.Test.YtnffeclgboomoaaGreatDoorT24
import Derived.Test.YtnffeclgboomoaaGreatDoorT25
import Derived.Test.YtnffeclgboomoaaGreatDoorT26
import Derived.Test.YtnffeclgboomoaaGreatDoorT27
import Derived.Test.YtnffeclgboomoaaGreatDoorT28
import Derived.Test.YtnffeclgboomoaaGreatDoorT29
import Derived.Test.YtnffeclgboomoaaGreatDoorT30
import Derived.Test.YtnffeclgboomoaaGreatDoorT31
import Derived.Test.YtnffeclgboomoaaGreatDoorT32
import Derived.Test.YtnffeclgboomoaaGreatDoorT33
import Derived.Test.YtnffeclgboomoaaGreatDoorT34
import Derived.Test.YtnffeclgboomoaaGreatDoorT35
import Derived.Test.YtnffeclgboomoaaGreatDoorT36
import Derived.Test.YtnffeclgboomoaaGreatDoorT37
import Derived.Test.YtnffeclgboomoaaGreatDoorT38
import Derived.Test.YtnffeclgboomoaaGreatDoorT39
import Derived.Test.YtnffeclgboomoaaGreatDoorT40
import Derived.Test.YtnffeclgboomoaaGreatDoorT41
import Derived.Test.YtnffeclgboomoaaGreatDoorT42
import Derived.Test.YtnffeclgboomoaaGreatDoorT43
import Derived.Test.YtnffeclgboomoaaGreatDoorT44
import Derived.Test.YtnffeclgboomoaaGreatDoorT45
import Derived.Test.YtnffeclgboomoaaGreatDoorT46
import Derived.Test.YtnffeclgboomoaaGreatDoorT47
import Derived.Test.YtnffeclgboomoaaGreatDoorT48
import Derived.Test.YtnffeclgboomoaaGreatDoorT49
import Derived.Test.YtnffeclgboomoaaGreatDoorT51
import Derived.Test.YtnffeclgboomoaaGreatDoorRows
import Derived.Test.YtnffeclgboomoaaGreatDoorCards
import Derived.Test.YtnffeclgboomoaaGreatDoorTie
import Derived.WalkKit
import Derived.ProofKit
import Derived.OpenShut
import Derived.ShutString
import Derived.ChangeOld
import Derived.Below
import Derived.Stop.Joined
import Derived.SevenTiedAt
import Derived.LaidMore
namespace Go.Proofs.YtnffeclgboomoaaGreatDoor
open Go.ChangeShapes Go.WideShapes Go.ChangeAt Go.RowKit
open Go.ChangeMaps (open_string shut_string)
set_option linter.unusedVariables false

theorem fnExactMemoTrue_own : ownKnob Tryz.prog.godebug = none := by kernel_rfl
theorem fnExactMemoTrue_laidOut : laidOutB Tryz.prog = true := by kernel_rfl

set_option maxRecDepth 100000 in
theorem fnExactMemoTrue_lifted (os : Os) (started : os.Started) (H : Type) (enc : TypeId × Value → H) :
    ReturnsInHanded {} Tryz.checked os 9 .any (fun w args => (Rows.fnExactMemoTrueSpec.pre enc Tryz.prog Tryz.f9 [] false w args ∧ laidMetH Tryz.prog Rows.fnExactMemoTrueRow.laid w) ∧ sizedMet enc Tryz.prog Tryz.f9 (OpenSpec.ofChange Rows.fnExactMemoTrueSpec) false w args)
      (Rows.fnExactMemoTrueSpec.post enc Tryz.prog Tryz.f9 false true false false) := by
  refine returnsInHanded_of_change_and (C := Tryz.checked) (X := fun w _ => laidMetH Tryz.prog Rows.fnExactMemoTrueRow.laid w) (fun _ _ _ hh h => h.of_heap hh) fnExactMemoTrue_own started (by kernel_rfl) Tryz.func9
    (ChangeSpec.witness_shaped (enc := enc) (C := Tryz.checked) (os := os) (X := fun w _ => laidMetH Tryz.prog Rows.fnExactMemoTrueRow.laid w) false (World.doorLaid Tryz.prog 400 os) #[.agg #[.slice none 0 0], .agg #[.slice none 0 0]] 8 rfl (World.shaped_of_RefB (by kernel_rfl) (by kernel_rfl)) (by kernel_rfl) (by kernel_rfl) (by kernel_rfl) (fnExactMemoTrue_door_met os _)) ?_
  intro W base args ds gs before hval0 hW _ _ hL _
  have hval : ∀ (j : Nat) t v, Tryz.f9.params[j]? = some t → args[j]? = some v → Value.okWide Tryz.prog W .any base t v := hval0
  have hW' := hW
  obtain ⟨p, q, hA0, hV, rfl, hfz, hnd⟩ := hW
  have hA : DataW.TrodAll enc Tryz.prog W 0 (fun _ => true) true Tryz.f9.params.toList args.toList ds p := hA0
  rw [Tryz.params9] at hA hval
  obtain ⟨v0, vs0, d0, ds0, p0, q0, hargs, rfl, rfl, h0, r0⟩ := trodAll_cons hA
  obtain ⟨v1, vs1, d1, ds1, p1, q1, rfl, rfl, rfl, h1, r1⟩ := trodAll_cons r0
  obtain ⟨rfl, rfl, rfl⟩ := trodAll_nil r1
  obtain rfl : args = #[v0, v1] := by cases args; simp_all
  have hVs : DataW.TrodVars enc Tryz.prog W (fun _ => true) ["loop.example/g00632/impl.vmShape"] gs q := hV
  obtain ⟨g0, rfl⟩ : ∃ g0, gs = [g0] := by
    have hlen := vars_len hVs
    match gs, hlen with
    | [g0], _ => exact ⟨g0, rfl⟩
  have k0 := h0
  have lt0 : ∀ x ∈ p0, x.block < W.heap.size := by obtain ⟨m, hm⟩ := k0; exact DataW.trod_lt m _ _ _ hm
  obtain ⟨a0, len0, cap0, z0, rfl, w0⟩ := open_laws_Program (hval 0 59 v0 rfl rfl) h0
  have k1 := h1
  have lt1 : ∀ x ∈ p1, x.block < W.heap.size := by obtain ⟨m, hm⟩ := k1; exact DataW.trod_lt m _ _ _ hm
  obtain ⟨a1, len1, cap1, z1, rfl, w1⟩ := open_laws_Memo (hval 1 70 v1 rfl rfl) h1
  clear hA0 hval0
  refine (fnExactMemoTrue_walk a0 len0 cap0 z0 a1 len1 cap1 z1 W w0 w1 (fnExactMemoTrue_laid hL)).mono fun e W' ⟨he, bel⟩ => ?_
  subst he
  have hv' := vars_below fnExactMemoTrue_laidOut bel (by kernel_rfl) hVs
  exact ⟨_, rfl, _, _, _, [], _, q, hW', trodAll_mk1 (shut_bool Tryz.underlying4 _), (trodAll_cons_mk (Below.trod fnExactMemoTrue_laidOut (by kernel_rfl) (of_decide_eq_true (by kernel_rfl)) k0 bel lt0) (trodAll_cons_mk (Below.trod fnExactMemoTrue_laidOut (by kernel_rfl) (of_decide_eq_true (by kernel_rfl)) k1 bel lt1) trodAll_mk0)), hv', bel.frame _, fun h => by cases h⟩

theorem fnExactMemoTrue_said : Rows.FnExactMemoTrueSaid :=
  OpenClaim.holds_of_wide 9 Tryz.f9 rfl rfl rfl rfl rfl rfl rfl ⟨rfl, rfl, rfl, rfl, rfl⟩ rfl rfl rfl rfl rfl (by kernel_rfl) Tryz.func9 (by kernel_rfl)
    (of_decide_eq_true (by kernel_rfl)) (by unfold Func.isWrapper; rw [if_neg (of_decide_eq_false (by kernel_rfl))]; exact ⟨rfl, rfl⟩)
    (fun os started H enc _ => fnExactMemoTrue_lifted os started H enc)

theorem fnExactMemoTrue_card : Rows.FnExactMemoTrueCardSaid :=
  Claim7.holds_tied_plain_at .later [] [.wider] true (true, "288334e78780d1d4cb8782c73ead989dba029f5048a3dd896d54074a93b3aabe") true
    fnExactMemoTrue_said (fun _ h => by cases h) (by kernel_rfl) (fun _ h => by cases h) fnExactMemoTrue_row_tie rfl ⟨rfl, rfl⟩ (by kernel_rfl) rfl
    (fun f fn hf hfn => by
      obtain rfl : f = 9 := Option.some.inj ((show Tryz.prog.funcNamed "loop.example/g00632/laws.FnExactMemoTrue" = some 9 by kernel_rfl).symm.trans hf) |>.symm
      obtain rfl : fn = Tryz.f9 := (Option.some.inj (Tryz.func9.symm.trans hfn)).symm
      exact ⟨by kernel_rfl, fun j t ht => by
        rw [Tryz.params9] at ht
        have hm : t ∈ [59, 70] := by simpa using Array.mem_of_getElem? ht
        have hall : ([59, 70].all fun u => !Tryz.prog.wantsStandIn u) = true := by kernel_rfl
        exact (show Tryz.prog.wantsStandIn t = false by simpa using List.all_eq_true.1 hall t hm)⟩)
    (by kernel_rfl)
#print axioms fnExactMemoTrue_card
end Go.Proofs.YtnffeclgboomoaaGreatDoor
