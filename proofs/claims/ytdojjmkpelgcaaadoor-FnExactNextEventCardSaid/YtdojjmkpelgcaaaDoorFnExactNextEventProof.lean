/-
  fnExactNextEvent: the law FnExactNextEvent holds of the program at every input (the listed package-level variables as the text lays them): the frame round our walk.
-/
import Derived.Test.YtdojjmkpelgcaaaDoorN01
import Derived.Test.YtdojjmkpelgcaaaDoorN02
import Derived.Test.YtdojjmkpelgcaaaDoorN03
import Derived.Test.YtdojjmkpelgcaaaDoorN04
import Derived.Test.YtdojjmkpelgcaaaDoorN05
import Derived.Test.YtdojjmkpelgcaaaDoorN06
import Derived.Test.YtdojjmkpelgcaaaDoorN07
import Derived.Test.YtdojjmkpelgcaaaDoorN08
import Derived.Test.YtdojjmkpelgcaaaDoorN09
import Derived.Test.YtdojjmkpelgcaaaDoorN10
import Derived.Test.YtdojjmkpelgcaaaDoorN11
import Derived.Test.YtdojjmkpelgcaaaDoorN12
import Derived.Test.YtdojjmkpelgcaaaDoorN13
import Derived.Test.YtdojjmkpelgcaaaDoorN14
import Derived.Test.YtdojjmkpelgcaaaDoorN15
import Derived.Test.YtdojjmkpelgcaaaDoorN16
import Derived.Test.YtdojjmkpelgcaaaDoorN17
import Derived.Test.YtdojjmkpelgcaaaDoorN18
import Derived.Test.YtdojjmkpelgcaaaDoorN19
import Derived.Test.YtdojjmkpelgcaaaDoorN20
import Derived.Test.YtdojjmkpelgcaaaDoorN21
import Derived.Test.YtdojjmkpelgcaaaDoorN22
import Derived.Test.YtdojjmkpelgcaaaDoorN23
import Derived.Test.YtdojjmkpelgcaaaDoorN24
import Derived.Test.YtdojjmkpelgcaaaDoorN25
import Derived.Test.YtdojjmkpelgcaaaDoorN26
import Derived.Test.YtdojjmkpelgcaaaDoorN27
import Derived.Test.YtdojjmkpelgcaaaDoorN28
import Derived.Test.YtdojjmkpelgcaaaDoorN29
import Derived.Test.YtdojjmkpelgcaaaDoorN30
import Derived.Test.YtdojjmkpelgcaaaDoorN31
import Derived.Test.YtdojjmkpelgcaaaDoorN32
import Derived.Test.YtdojjmkpelgcaaaDoorN33
import Derived.Test.YtdojjmkpelgcaaaDoorN34
import Derived.Test.YtdojjmkpelgcaaaDoorN35
import Derived.Test.YtdojjmkpelgcaaaDoorN36
import Derived.Test.YtdojjmkpelgcaaaDoorN37
import Derived.Test.YtdojjmkpelgcaaaDoorN38
import Derived.Test.YtdojjmkpelgcaaaDoorN39
import Derived.Test.YtdojjmkpelgcaaaDoorN40
import Derived.Test.YtdojjmkpelgcaaaDoorN41
import Derived.Test.YtdojjmkpelgcaaaDoorN42
import Derived.Test.YtdojjmkpelgcaaaDoorN43
import Derived.Test.YtdojjmkpelgcaaaDoorN44
import Derived.Test.YtdojjmkpelgcaaaDoorN45
import Derived.Test.YtdojjmkpelgcaaaDoorN46
import Derived.Test.YtdojjmkpelgcaaaDoorN47
import Derived.Test.YtdojjmkpelgcaaaDoorN48
import Derived.Test.YtdojjmkpelgcaaaDoorN49
import Derived.Test.YtdojjmkpelgcaaaDoorRows
import Derived.Test.YtdojjmkpelgcaaaDoorCards
import Derived.Test.YtdojjmkpelgcaaaDoorTie
import Derived.WalkKit
import Derived.ProofKit
import Derived.OpenShut
import Derived.ShutString
import Derived.ChangeOld
import Derived.Below
import Derived.Stop.Joined
import Derived.SevenTiedAt
import Derived.LaidMore
namespace Go.Proofs.YtdojjmkpelgcaaaDoor
open Go.ChangeShapes Go.WideShapes Go.ChangeAt Go.RowKit
open Go.ChangeMaps (open_string shut_string)
set_option linter.unusedVariables false

theorem fnExactNextEvent_own : ownKnob Tryd.prog.godebug = none := by kernel_rfl
theorem fnExactNextEvent_laidOut : laidOutB Tryd.prog = true := by kernel_rfl

set_option maxRecDepth 100000 in
theorem fnExactNextEvent_lifted (os : Os) (started : os.Started) (H : Type) (enc : TypeId × Value → H) :
    ReturnsInHanded {} Tryd.checked os 6 .any (fun w args => (Rows.fnExactNextEventSpec.pre enc Tryd.prog Tryd.f6 [] false w args ∧ laidMetH Tryd.prog Rows.fnExactNextEventRow.laid w) ∧ sizedMet enc Tryd.prog Tryd.f6 (OpenSpec.ofChange Rows.fnExactNextEventSpec) false w args)
      (Rows.fnExactNextEventSpec.post enc Tryd.prog Tryd.f6 false true false false) := by
  refine returnsInHanded_of_change_and (C := Tryd.checked) (X := fun w _ => laidMetH Tryd.prog Rows.fnExactNextEventRow.laid w) (fun _ _ _ hh h => h.of_heap hh) fnExactNextEvent_own started (by kernel_rfl) Tryd.func6
    (ChangeSpec.witness_shaped (enc := enc) (C := Tryd.checked) (os := os) (X := fun w _ => laidMetH Tryd.prog Rows.fnExactNextEventRow.laid w) false (World.doorLaid Tryd.prog 400 os) #[.agg #[.slice none 0 0], .agg #[.slice none 0 0, .slice none 0 0, .slice none 0 0, .slice none 0 0], .int .i64 0] 8 rfl (World.shaped_of_RefB (by kernel_rfl) (by kernel_rfl)) (by kernel_rfl) (by kernel_rfl) (by kernel_rfl) (fnExactNextEvent_door_met os _)) ?_
  intro W base args ds gs before hval0 hW _ _ hL _
  have hval : ∀ (j : Nat) t v, Tryd.f6.params[j]? = some t → args[j]? = some v → Value.okWide Tryd.prog W .any base t v := hval0
  have hW' := hW
  obtain ⟨p, q, hA0, hV, rfl, hfz, hnd⟩ := hW
  have hA : DataW.TrodAll enc Tryd.prog W 0 (fun _ => true) true Tryd.f6.params.toList args.toList ds p := hA0
  rw [Tryd.params6] at hA hval
  obtain ⟨v0, vs0, d0, ds0, p0, q0, hargs, rfl, rfl, h0, r0⟩ := trodAll_cons hA
  obtain ⟨v1, vs1, d1, ds1, p1, q1, rfl, rfl, rfl, h1, r1⟩ := trodAll_cons r0
  obtain ⟨v2, vs2, d2, ds2, p2, q2, rfl, rfl, rfl, h2, r2⟩ := trodAll_cons r1
  obtain ⟨rfl, rfl, rfl⟩ := trodAll_nil r2
  obtain rfl : args = #[v0, v1, v2] := by cases args; simp_all
  have hVs : DataW.TrodVars enc Tryd.prog W (fun _ => true) ["loop.example/g00632/impl.vmShape"] gs q := hV
  obtain ⟨g0, rfl⟩ : ∃ g0, gs = [g0] := by
    have hlen := vars_len hVs
    match gs, hlen with
    | [g0], _ => exact ⟨g0, rfl⟩
  have k0 := h0
  have lt0 : ∀ x ∈ p0, x.block < W.heap.size := by obtain ⟨m, hm⟩ := k0; exact DataW.trod_lt m _ _ _ hm
  obtain ⟨a0, len0, cap0, z0, rfl, w0⟩ := open_laws_Program (hval 0 42 v0 rfl rfl) h0
  have k1 := h1
  have lt1 : ∀ x ∈ p1, x.block < W.heap.size := by obtain ⟨m, hm⟩ := k1; exact DataW.trod_lt m _ _ _ hm
  obtain ⟨s1, m1, rfl, w1⟩ := open_laws_Vm (hval 1 55 v1 rfl rfl) h1
  obtain ⟨a2, rfl, rfl, rfl, w2⟩ := open_int Tryd.underlying3 (hval 2 3 v2 rfl rfl) h2
  clear hA0 hval0
  refine (fnExactNextEvent_walk a0 len0 cap0 z0 s1 m1 a2 w2 W w0 w1 (fnExactNextEvent_laid hL)).mono fun e W' ⟨he, bel⟩ => ?_
  subst he
  have hv' := vars_below fnExactNextEvent_laidOut bel (by kernel_rfl) hVs
  exact ⟨_, rfl, _, _, _, [], _, q, hW', trodAll_mk1 (shut_bool Tryd.underlying4 _), (trodAll_cons_mk (Below.trod fnExactNextEvent_laidOut (by kernel_rfl) (of_decide_eq_true (by kernel_rfl)) k0 bel lt0) (trodAll_cons_mk (Below.trod fnExactNextEvent_laidOut (by kernel_rfl) (of_decide_eq_true (by kernel_rfl)) k1 bel lt1) (trodAll_cons_mk (shut_int Tryd.underlying3 w2) trodAll_mk0))), hv', bel.frame _, fun h => by cases h⟩

theorem fnExactNextEvent_said : Rows.FnExactNextEventSaid :=
  OpenClaim.holds_of_wide 6 Tryd.f6 rfl rfl rfl rfl rfl rfl rfl ⟨rfl, rfl, rfl, rfl, rfl⟩ rfl rfl rfl rfl rfl (by kernel_rfl) Tryd.func6 (by kernel_rfl)
    (of_decide_eq_true (by kernel_rfl)) (by unfold Func.isWrapper; rw [if_neg (of_decide_eq_false (by kernel_rfl))]; exact ⟨rfl, rfl⟩)
    (fun os started H enc _ => fnExactNextEvent_lifted os started H enc)

theorem fnExactNextEvent_card : Rows.FnExactNextEventCardSaid :=
  Claim7.holds_tied_plain_at .later [] [.wider] true (true, "8804be1bfc51928644b9cff2352f40ea19b983334ae0d437d1ed1f16e7cb2535") true
    fnExactNextEvent_said (fun _ h => by cases h) (by kernel_rfl) (fun _ h => by cases h) fnExactNextEvent_row_tie rfl ⟨rfl, rfl⟩ (by kernel_rfl) rfl
    (fun f fn hf hfn => by
      obtain rfl : f = 6 := Option.some.inj ((show Tryd.prog.funcNamed "loop.example/g00632/laws.FnExactNextEvent" = some 6 by kernel_rfl).symm.trans hf) |>.symm
      obtain rfl : fn = Tryd.f6 := (Option.some.inj (Tryd.func6.symm.trans hfn)).symm
      exact ⟨by kernel_rfl, fun j t ht => by
        rw [Tryd.params6] at ht
        have hm : t ∈ [42, 55, 3] := by simpa using Array.mem_of_getElem? ht
        have hall : ([42, 55, 3].all fun u => !Tryd.prog.wantsStandIn u) = true := by kernel_rfl
        exact (show Tryd.prog.wantsStandIn t = false by simpa using List.all_eq_true.1 hall t hm)⟩)
    (by kernel_rfl)
#print axioms fnExactNextEvent_card
end Go.Proofs.YtdojjmkpelgcaaaDoor
