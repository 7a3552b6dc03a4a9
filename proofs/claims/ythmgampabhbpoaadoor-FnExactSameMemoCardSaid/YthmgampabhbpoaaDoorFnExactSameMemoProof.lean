/-
  fnExactSameMemo: the law FnExactSameMemo holds of the program at every input (the listed package-level variables as the text lays them): the frame round our walk.
-/
import Derived.Test.YthmgampabhbpoaaDoorC01
import Derived.Test.YthmgampabhbpoaaDoorC02
import Derived.Test.YthmgampabhbpoaaDoorC03
import Derived.Test.YthmgampabhbpoaaDoorC04
import Derived.Test.YthmgampabhbpoaaDoorC05
import Derived.Test.YthmgampabhbpoaaDoorC06
import Derived.Test.YthmgampabhbpoaaDoorC07
import Derived.Test.YthmgampabhbpoaaDoorC08
import Derived.Test.YthmgampabhbpoaaDoorC09
import Derived.Test.YthmgampabhbpoaaDoorC10
import Derived.Test.YthmgampabhbpoaaDoorC11
import Derived.Test.YthmgampabhbpoaaDoorC12
import Derived.Test.YthmgampabhbpoaaDoorC13
import Derived.Test.YthmgampabhbpoaaDoorC14
import Derived.Test.YthmgampabhbpoaaDoorC15
import Derived.Test.YthmgampabhbpoaaDoorC16
import Derived.Test.YthmgampabhbpoaaDoorC17
import Derived.Test.YthmgampabhbpoaaDoorC18
import Derived.Test.YthmgampabhbpoaaDoorC19
import Derived.Test.YthmgampabhbpoaaDoorC20
import Derived.Test.YthmgampabhbpoaaDoorC21
import Derived.Test.YthmgampabhbpoaaDoorC22
import Derived.Test.YthmgampabhbpoaaDoorC23
import Derived.Test.YthmgampabhbpoaaDoorC24
import Derived.Test.YthmgampabhbpoaaDoorC25
import Derived.Test.YthmgampabhbpoaaDoorC26
import Derived.Test.YthmgampabhbpoaaDoorC27
import Derived.Test.YthmgampabhbpoaaDoorC28
import Derived.Test.YthmgampabhbpoaaDoorC29
import Derived.Test.YthmgampabhbpoaaDoorC30
import Derived.Test.YthmgampabhbpoaaDoorC31
import Derived.Test.YthmgampabhbpoaaDoorC32
import Derived.Test.YthmgampabhbpoaaDoorC33
import Derived.Test.YthmgampabhbpoaaDoorC34
import Derived.Test.YthmgampabhbpoaaDoorC35
import Derived.Test.YthmgampabhbpoaaDoorC36
import Derived.Test.YthmgampabhbpoaaDoorC37
import Derived.Test.YthmgampabhbpoaaDoorC38
import Derived.Test.YthmgampabhbpoaaDoorC39
import Derived.Test.YthmgampabhbpoaaDoorC40
import Derived.Test.YthmgampabhbpoaaDoorC41
import Derived.Test.YthmgampabhbpoaaDoorC42
import Derived.Test.YthmgampabhbpoaaDoorC43
import Derived.Test.YthmgampabhbpoaaDoorC44
import Derived.Test.YthmgampabhbpoaaDoorC45
import Derived.Test.YthmgampabhbpoaaDoorC46
import Derived.Test.YthmgampabhbpoaaDoorC47
import Derived.Test.YthmgampabhbpoaaDoorC48
import Derived.Test.YthmgampabhbpoaaDoorC49
import Derived.Test.YthmgampabhbpoaaDoorRows
import Derived.Test.YthmgampabhbpoaaDoorCards
import Derived.Test.YthmgampabhbpoaaDoorTie
import Derived.WalkKit
import Derived.ProofKit
import Derived.OpenShut
import Derived.ShutString
import Derived.ChangeOld
import Derived.Below
import Derived.Stop.Joined
import Derived.SevenTiedAt
import Derived.LaidMore
namespace Go.Proofs.YthmgampabhbpoaaDoor
open Go.ChangeShapes Go.WideShapes Go.ChangeAt Go.RowKit
open Go.ChangeMaps (open_string shut_string)
set_option linter.unusedVariables false

theorem fnExactSameMemo_own : ownKnob Tryd.prog.godebug = none := by kernel_rfl
theorem fnExactSameMemo_laidOut : laidOutB Tryd.prog = true := by kernel_rfl

set_option maxRecDepth 100000 in
theorem fnExactSameMemo_lifted (os : Os) (started : os.Started) (H : Type) (enc : TypeId × Value → H) :
    ReturnsInHanded {} Tryd.checked os 9 .any (fun w args => (Rows.fnExactSameMemoSpec.pre enc Tryd.prog Tryd.f9 [] false w args ∧ laidMetH Tryd.prog Rows.fnExactSameMemoRow.laid w) ∧ sizedMet enc Tryd.prog Tryd.f9 (OpenSpec.ofChange Rows.fnExactSameMemoSpec) false w args)
      (Rows.fnExactSameMemoSpec.post enc Tryd.prog Tryd.f9 false true false false) := by
  refine returnsInHanded_of_change_and (C := Tryd.checked) (X := fun w _ => laidMetH Tryd.prog Rows.fnExactSameMemoRow.laid w) (fun _ _ _ hh h => h.of_heap hh) fnExactSameMemo_own started (by kernel_rfl) Tryd.func9
    (ChangeSpec.witness_shaped (enc := enc) (C := Tryd.checked) (os := os) (X := fun w _ => laidMetH Tryd.prog Rows.fnExactSameMemoRow.laid w) false (World.doorLaid Tryd.prog 400 os) #[.agg #[.slice none 0 0], .agg #[.slice none 0 0]] 8 rfl (World.shaped_of_RefB (by kernel_rfl) (by kernel_rfl)) (by kernel_rfl) (by kernel_rfl) (by kernel_rfl) (fnExactSameMemo_door_met os _)) ?_
  intro W base args ds gs before hval0 hW _ _ hL _
  have hval : ∀ (j : Nat) t v, Tryd.f9.params[j]? = some t → args[j]? = some v → Value.okWide Tryd.prog W .any base t v := hval0
  have hW' := hW
  obtain ⟨p, q, hA0, hV, rfl, hfz, hnd⟩ := hW
  have hA : DataW.TrodAll enc Tryd.prog W 0 (fun _ => true) true Tryd.f9.params.toList args.toList ds p := hA0
  rw [Tryd.params9] at hA hval
  obtain ⟨v0, vs0, d0, ds0, p0, q0, hargs, rfl, rfl, h0, r0⟩ := trodAll_cons hA
  obtain ⟨v1, vs1, d1, ds1, p1, q1, rfl, rfl, rfl, h1, r1⟩ := trodAll_cons r0
  obtain ⟨rfl, rfl, rfl⟩ := trodAll_nil r1
  obtain rfl : args = #[v0, v1] := by cases args; simp_all
  have hVs : DataW.TrodVars enc Tryd.prog W (fun _ => true) ["loop.example/g00632/impl.vmShape"] gs q := hV
  obtain ⟨g0, rfl⟩ : ∃ g0, gs = [g0] := by
    have hlen := vars_len hVs
    match gs, hlen with
    | [g0], _ => exact ⟨g0, rfl⟩
  have k0 := h0
  have lt0 : ∀ x ∈ p0, x.block < W.heap.size := by obtain ⟨m, hm⟩ := k0; exact DataW.trod_lt m _ _ _ hm
  obtain ⟨a0, len0, cap0, z0, rfl, w0⟩ := open_laws_Memo (hval 0 36 v0 rfl rfl) h0
  have k1 := h1
  have lt1 : ∀ x ∈ p1, x.block < W.heap.size := by obtain ⟨m, hm⟩ := k1; exact DataW.trod_lt m _ _ _ hm
  obtain ⟨a1, len1, cap1, z1, rfl, w1⟩ := open_laws_Memo (hval 1 36 v1 rfl rfl) h1
  clear hA0 hval0
  refine (fnExactSameMemo_walk a0 len0 cap0 z0 a1 len1 cap1 z1 W w0 w1 (fnExactSameMemo_laid hL)).mono fun e W' ⟨he, bel⟩ => ?_
  subst he
  have hv' := vars_below fnExactSameMemo_laidOut bel (by kernel_rfl) hVs
  exact ⟨_, rfl, _, _, _, [], _, q, hW', trodAll_mk1 (shut_bool Tryd.underlying4 _), (trodAll_cons_mk (Below.trod fnExactSameMemo_laidOut (by kernel_rfl) (of_decide_eq_true (by kernel_rfl)) k0 bel lt0) (trodAll_cons_mk (Below.trod fnExactSameMemo_laidOut (by kernel_rfl) (of_decide_eq_true (by kernel_rfl)) k1 bel lt1) trodAll_mk0)), hv', bel.frame _, fun h => by cases h⟩

theorem fnExactSameMemo_said : Rows.FnExactSameMemoSaid :=
  OpenClaim.holds_of_wide 9 Tryd.f9 rfl rfl rfl rfl rfl rfl rfl ⟨rfl, rfl, rfl, rfl, rfl⟩ rfl rfl rfl rfl rfl (by kernel_rfl) Tryd.func9 (by kernel_rfl)
    (of_decide_eq_true (by kernel_rfl)) (by unfold Func.isWrapper; rw [if_neg (of_decide_eq_false (by kernel_rfl))]; exact ⟨rfl, rfl⟩)
    (fun os started H enc _ => fnExactSameMemo_lifted os started H enc)

theorem fnExactSameMemo_card : Rows.FnExactSameMemoCardSaid :=
  Claim7.holds_tied_plain_at .later [] [.wider] true (true, "436dbc765638746d4e0f2b2233015272c87edfca9a8a0189ecf0b313bee75414") true
    fnExactSameMemo_said (fun _ h => by cases h) (by kernel_rfl) (fun _ h => by cases h) fnExactSameMemo_row_tie rfl ⟨rfl, rfl⟩ (by kernel_rfl) rfl
    (fun f fn hf hfn => by
      obtain rfl : f = 9 := Option.some.inj ((show Tryd.prog.funcNamed "loop.example/g00632/laws.FnExactSameMemo" = some 9 by kernel_rfl).symm.trans hf) |>.symm
      obtain rfl : fn = Tryd.f9 := (Option.some.inj (Tryd.func9.symm.trans hfn)).symm
      exact ⟨by kernel_rfl, fun j t ht => by
        rw [Tryd.params9] at ht
        have hm : t ∈ [36, 36] := by simpa using Array.mem_of_getElem? ht
        have hall : ([36, 36].all fun u => !Tryd.prog.wantsStandIn u) = true := by kernel_rfl
        exact (show Tryd.prog.wantsStandIn t = false by simpa using List.all_eq_true.1 hall t hm)⟩)
    (by kernel_rfl)
#print axioms fnExactSameMemo_card
end Go.Proofs.YthmgampabhbpoaaDoor
