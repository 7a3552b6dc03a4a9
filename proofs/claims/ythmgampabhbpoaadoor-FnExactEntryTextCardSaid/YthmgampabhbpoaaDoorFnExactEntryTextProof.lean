/-
  fnExactEntryText: the law FnExactEntryText holds of the program at every input (the listed package-level variables as the text lays them): the frame round our walk.
-/
import Derived.Test.YthmgampabhbpoaaDoorB01
import Derived.Test.YthmgampabhbpoaaDoorB02
import Derived.Test.YthmgampabhbpoaaDoorB03
import Derived.Test.YthmgampabhbpoaaDoorB04
import Derived.Test.YthmgampabhbpoaaDoorB05
import Derived.Test.YthmgampabhbpoaaDoorB06
import Derived.Test.YthmgampabhbpoaaDoorB07
import Derived.Test.YthmgampabhbpoaaDoorB08
import Derived.Test.YthmgampabhbpoaaDoorB09
import Derived.Test.YthmgampabhbpoaaDoorB10
import Derived.Test.YthmgampabhbpoaaDoorB11
import Derived.Test.YthmgampabhbpoaaDoorB12
import Derived.Test.YthmgampabhbpoaaDoorB13
import Derived.Test.YthmgampabhbpoaaDoorB14
import Derived.Test.YthmgampabhbpoaaDoorB15
import Derived.Test.YthmgampabhbpoaaDoorB16
import Derived.Test.YthmgampabhbpoaaDoorB17
import Derived.Test.YthmgampabhbpoaaDoorB18
import Derived.Test.YthmgampabhbpoaaDoorB19
import Derived.Test.YthmgampabhbpoaaDoorB20
import Derived.Test.YthmgampabhbpoaaDoorB21
import Derived.Test.YthmgampabhbpoaaDoorB22
import Derived.Test.YthmgampabhbpoaaDoorB23
import Derived.Test.YthmgampabhbpoaaDoorB24
import Derived.Test.YthmgampabhbpoaaDoorB25
import Derived.Test.YthmgampabhbpoaaDoorB26
import Derived.Test.YthmgampabhbpoaaDoorB27
import Derived.Test.YthmgampabhbpoaaDoorB28
import Derived.Test.YthmgampabhbpoaaDoorB29
import Derived.Test.YthmgampabhbpoaaDoorB30
import Derived.Test.YthmgampabhbpoaaDoorB31
import Derived.Test.YthmgampabhbpoaaDoorB32
import Derived.Test.YthmgampabhbpoaaDoorB33
import Derived.Test.YthmgampabhbpoaaDoorB34
import Derived.Test.YthmgampabhbpoaaDoorB35
import Derived.Test.YthmgampabhbpoaaDoorB36
import Derived.Test.YthmgampabhbpoaaDoorB37
import Derived.Test.YthmgampabhbpoaaDoorB38
import Derived.Test.YthmgampabhbpoaaDoorB39
import Derived.Test.YthmgampabhbpoaaDoorB40
import Derived.Test.YthmgampabhbpoaaDoorB42
import Derived.Test.YthmgampabhbpoaaDoorB43
import Derived.Test.YthmgampabhbpoaaDoorB44
import Derived.Test.YthmgampabhbpoaaDoorB45
import Derived.Test.YthmgampabhbpoaaDoorB46
import Derived.Test.YthmgampabhbpoaaDoorB47
import Derived.Test.YthmgampabhbpoaaDoorB52
import Derived.Test.YthmgampabhbpoaaDoorB55
import Derived.Test.YthmgampabhbpoaaDoorB56
import Derived.Test.YthmgampabhbpoaaDoorB57
import Derived.Test.YthmgampabhbpoaaDoorRows
import Derived.Test.YthmgampabhbpoaaDoorCards
import Derived.Test.YthmgampabhbpoaaDoorTie
import Derived.WalkKit
import Derived.ProofKit
import Derived.OpenShut
import Derived.ShutString
import Derived.ChangeOld
import Derived.Below
import Derived.Stop.Joined
import Derived.SevenTiedAt
import Derived.LaidMore
namespace Go.Proofs.YthmgampabhbpoaaDoor
open Go.ChangeShapes Go.WideShapes Go.ChangeAt Go.RowKit
open Go.ChangeMaps (open_string shut_string)
set_option linter.unusedVariables false

theorem fnExactEntryText_own : ownKnob Tryd.prog.godebug = none := by kernel_rfl
theorem fnExactEntryText_laidOut : laidOutB Tryd.prog = true := by kernel_rfl

set_option maxRecDepth 100000 in
theorem fnExactEntryText_lifted (os : Os) (started : os.Started) (H : Type) (enc : TypeId × Value → H) :
    ReturnsInHanded {} Tryd.checked os 7 .any (fun w args => (Rows.fnExactEntryTextSpec.pre enc Tryd.prog Tryd.f7 [] false w args ∧ laidMetH Tryd.prog Rows.fnExactEntryTextRow.laid w) ∧ sizedMet enc Tryd.prog Tryd.f7 (OpenSpec.ofChange Rows.fnExactEntryTextSpec) false w args)
      (Rows.fnExactEntryTextSpec.post enc Tryd.prog Tryd.f7 false true false false) := by
  refine returnsInHanded_of_change_and (C := Tryd.checked) (X := fun w _ => laidMetH Tryd.prog Rows.fnExactEntryTextRow.laid w) (fun _ _ _ hh h => h.of_heap hh) fnExactEntryText_own started (by kernel_rfl) Tryd.func7
    (ChangeSpec.witness_shaped (enc := enc) (C := Tryd.checked) (os := os) (X := fun w _ => laidMetH Tryd.prog Rows.fnExactEntryTextRow.laid w) false (World.doorLaid Tryd.prog 400 os) #[.agg #[.string ByteArray.empty, .slice none 0 0, .slice none 0 0]] 8 rfl (World.shaped_of_RefB (by kernel_rfl) (by kernel_rfl)) (by kernel_rfl) (by kernel_rfl) (by kernel_rfl) (fnExactEntryText_door_met os _)) ?_
  intro W base args ds gs before hval0 hW _ _ hL _
  have hval : ∀ (j : Nat) t v, Tryd.f7.params[j]? = some t → args[j]? = some v → Value.okWide Tryd.prog W .any base t v := hval0
  have hW' := hW
  obtain ⟨p, q, hA0, hV, rfl, hfz, hnd⟩ := hW
  have hA : DataW.TrodAll enc Tryd.prog W 0 (fun _ => true) true Tryd.f7.params.toList args.toList ds p := hA0
  rw [Tryd.params7] at hA hval
  obtain ⟨v0, vs0, d0, ds0, p0, q0, hargs, rfl, rfl, h0, r0⟩ := trodAll_cons hA
  obtain ⟨rfl, rfl, rfl⟩ := trodAll_nil r0
  obtain rfl : args = #[v0] := by cases args; simp_all
  have hVs : DataW.TrodVars enc Tryd.prog W (fun _ => true) ["loop.example/g00632/impl.vmShape"] gs q := hV
  obtain ⟨g0, rfl⟩ : ∃ g0, gs = [g0] := by
    have hlen := vars_len hVs
    match gs, hlen with
    | [g0], _ => exact ⟨g0, rfl⟩
  have k0 := h0
  have lt0 : ∀ x ∈ p0, x.block < W.heap.size := by obtain ⟨m, hm⟩ := k0; exact DataW.trod_lt m _ _ _ hm
  obtain ⟨e0, s0, rfl, w0⟩ := open_laws_Entry (hval 0 25 v0 rfl rfl) h0
  clear hA0 hval0
  refine (fnExactEntryText_walk e0 s0 W w0 (fnExactEntryText_laid hL)).mono fun e W' ⟨he, bel⟩ => ?_
  subst he
  have hv' := vars_below fnExactEntryText_laidOut bel (by kernel_rfl) hVs
  exact ⟨_, rfl, _, _, _, [], _, q, hW', trodAll_mk1 (shut_bool Tryd.underlying4 _), (trodAll_cons_mk (Below.trod fnExactEntryText_laidOut (by kernel_rfl) (of_decide_eq_true (by kernel_rfl)) k0 bel lt0) trodAll_mk0), hv', bel.frame _, fun h => by cases h⟩

theorem fnExactEntryText_said : Rows.FnExactEntryTextSaid :=
  OpenClaim.holds_of_wide 7 Tryd.f7 rfl rfl rfl rfl rfl rfl rfl ⟨rfl, rfl, rfl, rfl, rfl⟩ rfl rfl rfl rfl rfl (by kernel_rfl) Tryd.func7 (by kernel_rfl)
    (of_decide_eq_true (by kernel_rfl)) (by unfold Func.isWrapper; rw [if_neg (of_decide_eq_false (by kernel_rfl))]; exact ⟨rfl, rfl⟩)
    (fun os started H enc _ => fnExactEntryText_lifted os started H enc)

theorem fnExactEntryText_card : Rows.FnExactEntryTextCardSaid :=
  Claim7.holds_tied_plain_at .later [] [.wider] true (true, "436dbc765638746d4e0f2b2233015272c87edfca9a8a0189ecf0b313bee75414") true
    fnExactEntryText_said (fun _ h => by cases h) (by kernel_rfl) (fun _ h => by cases h) fnExactEntryText_row_tie rfl ⟨rfl, rfl⟩ (by kernel_rfl) rfl
    (fun f fn hf hfn => by
      obtain rfl : f = 7 := Option.some.inj ((show Tryd.prog.funcNamed "loop.example/g00632/laws.FnExactEntryText" = some 7 by kernel_rfl).symm.trans hf) |>.symm
      obtain rfl : fn = Tryd.f7 := (Option.some.inj (Tryd.func7.symm.trans hfn)).symm
      exact ⟨by kernel_rfl, fun j t ht => by
        rw [Tryd.params7] at ht
        have hm : t ∈ [25] := by simpa using Array.mem_of_getElem? ht
        have hall : ([25].all fun u => !Tryd.prog.wantsStandIn u) = true := by kernel_rfl
        exact (show Tryd.prog.wantsStandIn t = false by simpa using List.all_eq_true.1 hall t hm)⟩)
    (by kernel_rfl)
#print axioms fnExactEntryText_card
end Go.Proofs.YthmgampabhbpoaaDoor
