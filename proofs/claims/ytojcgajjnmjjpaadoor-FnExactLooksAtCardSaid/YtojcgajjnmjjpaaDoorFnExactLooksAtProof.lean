/-
  fnExactLooksAt: the law FnExactLooksAt holds of the program at every input (the listed package-level variables as the text lays them): the frame round our walk.
-/
import Derived.Test.YtojcgajjnmjjpaaDoorL01
import Derived.Test.YtojcgajjnmjjpaaDoorL02
import Derived.Test.YtojcgajjnmjjpaaDoorL03
import Derived.Test.YtojcgajjnmjjpaaDoorL04
import Derived.Test.YtojcgajjnmjjpaaDoorL05
import Derived.Test.YtojcgajjnmjjpaaDoorL06
import Derived.Test.YtojcgajjnmjjpaaDoorL07
import Derived.Test.YtojcgajjnmjjpaaDoorL08
import Derived.Test.YtojcgajjnmjjpaaDoorL09
import Derived.Test.YtojcgajjnmjjpaaDoorL10
import Derived.Test.YtojcgajjnmjjpaaDoorL11
import Derived.Test.YtojcgajjnmjjpaaDoorL12
import Derived.Test.YtojcgajjnmjjpaaDoorL13
import Derived.Test.YtojcgajjnmjjpaaDoorL14
import Derived.Test.YtojcgajjnmjjpaaDoorL15
import Derived.Test.YtojcgajjnmjjpaaDoorL16
import Derived.Test.YtojcgajjnmjjpaaDoorL17
import Derived.Test.YtojcgajjnmjjpaaDoorL18
import Derived.Test.YtojcgajjnmjjpaaDoorL19
import Derived.Test.YtojcgajjnmjjpaaDoorL20
import Derived.Test.YtojcgajjnmjjpaaDoorL21
import Derived.Test.YtojcgajjnmjjpaaDoorL22
import Derived.Test.YtojcgajjnmjjpaaDoorL23
import Derived.Test.YtojcgajjnmjjpaaDoorL24
import Derived.Test.YtojcgajjnmjjpaaDoorL25
import Derived.Test.YtojcgajjnmjjpaaDoorL26
import Derived.Test.YtojcgajjnmjjpaaDoorL27
import Derived.Test.YtojcgajjnmjjpaaDoorL28
import Derived.Test.YtojcgajjnmjjpaaDoorL29
import Derived.Test.YtojcgajjnmjjpaaDoorL30
import Derived.Test.YtojcgajjnmjjpaaDoorL31
import Derived.Test.YtojcgajjnmjjpaaDoorL32
import Derived.Test.YtojcgajjnmjjpaaDoorL33
import Derived.Test.YtojcgajjnmjjpaaDoorL34
import Derived.Test.YtojcgajjnmjjpaaDoorL35
import Derived.Test.YtojcgajjnmjjpaaDoorL36
import Derived.Test.YtojcgajjnmjjpaaDoorL37
import Derived.Test.YtojcgajjnmjjpaaDoorL38
import Derived.Test.YtojcgajjnmjjpaaDoorL39
import Derived.Test.YtojcgajjnmjjpaaDoorL40
import Derived.Test.YtojcgajjnmjjpaaDoorL41
import Derived.Test.YtojcgajjnmjjpaaDoorL42
import Derived.Test.YtojcgajjnmjjpaaDoorL43
import Derived.Test.YtojcgajjnmjjpaaDoorL44
import Derived.Test.YtojcgajjnmjjpaaDoorL45
import Derived.Test.YtojcgajjnmjjpaaDoorL46
import Derived.Test.YtojcgajjnmjjpaaDoorL47
import Derived.Test.YtojcgajjnmjjpaaDoorRows
import Derived.Test.YtojcgajjnmjjpaaDoorCards
import Derived.Test.YtojcgajjnmjjpaaDoorTie
import Derived.WalkKit
import Derived.ProofKit
import Derived.OpenShut
import Derived.ShutString
import Derived.ChangeOld
import Derived.Below
import Derived.Stop.Joined
import Derived.SevenTiedAt
import Derived.LaidMore
namespace Go.Proofs.YtojcgajjnmjjpaaDoor
open Go.ChangeShapes Go.WideShapes Go.ChangeAt Go.RowKit
open Go.ChangeMaps (open_string shut_string)
set_option linter.unusedVariables false

theorem fnExactLooksAt_own : ownKnob Tryd.prog.godebug = none := by kernel_rfl
theorem fnExactLooksAt_laidOut : laidOutB Tryd.prog = true := by kernel_rfl

set_option maxRecDepth 100000 in
theorem fnExactLooksAt_lifted (os : Os) (started : os.Started) (H : Type) (enc : TypeId × Value → H) :
    ReturnsInHanded {} Tryd.checked os 4 .any (fun w args => (Rows.fnExactLooksAtSpec.pre enc Tryd.prog Tryd.f4 [] false w args ∧ laidMetH Tryd.prog Rows.fnExactLooksAtRow.laid w) ∧ sizedMet enc Tryd.prog Tryd.f4 (OpenSpec.ofChange Rows.fnExactLooksAtSpec) false w args)
      (Rows.fnExactLooksAtSpec.post enc Tryd.prog Tryd.f4 false true false false) := by
  refine returnsInHanded_of_change_and (C := Tryd.checked) (X := fun w _ => laidMetH Tryd.prog Rows.fnExactLooksAtRow.laid w) (fun _ _ _ hh h => h.of_heap hh) fnExactLooksAt_own started (by kernel_rfl) Tryd.func4
    (ChangeSpec.witness_shaped (enc := enc) (C := Tryd.checked) (os := os) (X := fun w _ => laidMetH Tryd.prog Rows.fnExactLooksAtRow.laid w) false (World.doorLaid Tryd.prog 400 os) #[.agg #[.slice none 0 0], .agg #[.slice none 0 0, .slice none 0 0, .slice none 0 0, .slice none 0 0]] 8 rfl (World.shaped_of_RefB (by kernel_rfl) (by kernel_rfl)) (by kernel_rfl) (by kernel_rfl) (by kernel_rfl) (fnExactLooksAt_door_met os _)) ?_
  intro W base args ds gs before hval0 hW _ _ hL _
  have hval : ∀ (j : Nat) t v, Tryd.f4.params[j]? = some t → args[j]? = some v → Value.okWide Tryd.prog W .any base t v := hval0
  have hW' := hW
  obtain ⟨p, q, hA0, hV, rfl, hfz, hnd⟩ := hW
  have hA : DataW.TrodAll enc Tryd.prog W 0 (fun _ => true) true Tryd.f4.params.toList args.toList ds p := hA0
  rw [Tryd.params4] at hA hval
  obtain ⟨v0, vs0, d0, ds0, p0, q0, hargs, rfl, rfl, h0, r0⟩ := trodAll_cons hA
  obtain ⟨v1, vs1, d1, ds1, p1, q1, rfl, rfl, rfl, h1, r1⟩ := trodAll_cons r0
  obtain ⟨rfl, rfl, rfl⟩ := trodAll_nil r1
  obtain rfl : args = #[v0, v1] := by cases args; simp_all
  have hVs : DataW.TrodVars enc Tryd.prog W (fun _ => true) ["loop.example/g00632/impl.vmShape"] gs q := hV
  obtain ⟨g0, rfl⟩ : ∃ g0, gs = [g0] := by
    have hlen := vars_len hVs
    match gs, hlen with
    | [g0], _ => exact ⟨g0, rfl⟩
  have k0 := h0
  have lt0 : ∀ x ∈ p0, x.block < W.heap.size := by obtain ⟨m, hm⟩ := k0; exact DataW.trod_lt m _ _ _ hm
  obtain ⟨a0, len0, cap0, z0, rfl, w0⟩ := open_laws_Program (hval 0 24 v0 rfl rfl) h0
  have k1 := h1
  have lt1 : ∀ x ∈ p1, x.block < W.heap.size := by obtain ⟨m, hm⟩ := k1; exact DataW.trod_lt m _ _ _ hm
  obtain ⟨s1, m1, rfl, w1⟩ := open_laws_Vm (hval 1 36 v1 rfl rfl) h1
  clear hA0 hval0
  refine (fnExactLooksAt_walk a0 len0 cap0 z0 s1 m1 W w0 w1 (fnExactLooksAt_laid hL)).mono fun e W' ⟨he, bel⟩ => ?_
  subst he
  have hv' := vars_below fnExactLooksAt_laidOut bel (by kernel_rfl) hVs
  exact ⟨_, rfl, _, _, _, [], _, q, hW', trodAll_mk1 (shut_bool Tryd.underlying4 _), (trodAll_cons_mk (Below.trod fnExactLooksAt_laidOut (by kernel_rfl) (of_decide_eq_true (by kernel_rfl)) k0 bel lt0) (trodAll_cons_mk (Below.trod fnExactLooksAt_laidOut (by kernel_rfl) (of_decide_eq_true (by kernel_rfl)) k1 bel lt1) trodAll_mk0)), hv', bel.frame _, fun h => by cases h⟩

theorem fnExactLooksAt_said : Rows.FnExactLooksAtSaid :=
  OpenClaim.holds_of_wide 4 Tryd.f4 rfl rfl rfl rfl rfl rfl rfl ⟨rfl, rfl, rfl, rfl, rfl⟩ rfl rfl rfl rfl rfl (by kernel_rfl) Tryd.func4 (by kernel_rfl)
    (of_decide_eq_true (by kernel_rfl)) (by unfold Func.isWrapper; rw [if_neg (of_decide_eq_false (by kernel_rfl))]; exact ⟨rfl, rfl⟩)
    (fun os started H enc _ => fnExactLooksAt_lifted os started H enc)

theorem fnExactLooksAt_card : Rows.FnExactLooksAtCardSaid :=
  Claim7.holds_tied_plain_at .later [] [.wider] true (true, "d66d26c5ec8091cff5550d1733dd0559df47cf2f11a729c0df90fe4e62c5bf06") true
    fnExactLooksAt_said (fun _ h => by cases h) (by kernel_rfl) (fun _ h => by cases h) fnExactLooksAt_row_tie rfl ⟨rfl, rfl⟩ (by kernel_rfl) rfl
    (fun f fn hf hfn => by
      obtain rfl : f = 4 := Option.some.inj ((show Tryd.prog.funcNamed "loop.example/g00632/laws.FnExactLooksAt" = some 4 by kernel_rfl).symm.trans hf) |>.symm
      obtain rfl : fn = Tryd.f4 := (Option.some.inj (Tryd.func4.symm.trans hfn)).symm
      exact ⟨by kernel_rfl, fun j t ht => by
        rw [Tryd.params4] at ht
        have hm : t ∈ [24, 36] := by simpa using Array.mem_of_getElem? ht
        have hall : ([24, 36].all fun u => !Tryd.prog.wantsStandIn u) = true := by kernel_rfl
        exact (show Tryd.prog.wantsStandIn t = false by simpa using List.all_eq_true.1 hall t hm)⟩)
    (by kernel_rfl)
#print axioms fnExactLooksAt_card
end Go.Proofs.YtojcgajjnmjjpaaDoor
