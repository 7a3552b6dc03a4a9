/-
  fnExactFindEntry: the law FnExactFindEntry holds of the program at every input (the listed package-level variables as the text lays them): the frame round our walk.
-/
import Derived.Test.YthmgampabhbpoaaDoorD01
import Derived.Test.YthmgampabhbpoaaDoorD02
import Derived.Test.YthmgampabhbpoaaDoorD03
import Derived.Test.YthmgampabhbpoaaDoorD04
import Derived.Test.YthmgampabhbpoaaDoorD05
import Derived.Test.YthmgampabhbpoaaDoorD06
import Derived.Test.YthmgampabhbpoaaDoorD07
import Derived.Test.YthmgampabhbpoaaDoorD08
import Derived.Test.YthmgampabhbpoaaDoorD09
import Derived.Test.YthmgampabhbpoaaDoorD10
import Derived.Test.YthmgampabhbpoaaDoorD11
import Derived.Test.YthmgampabhbpoaaDoorD12
import Derived.Test.YthmgampabhbpoaaDoorD13
import Derived.Test.YthmgampabhbpoaaDoorD14
import Derived.Test.YthmgampabhbpoaaDoorD15
import Derived.Test.YthmgampabhbpoaaDoorD16
import Derived.Test.YthmgampabhbpoaaDoorD17
import Derived.Test.YthmgampabhbpoaaDoorD18
import Derived.Test.YthmgampabhbpoaaDoorD19
import Derived.Test.YthmgampabhbpoaaDoorD20
import Derived.Test.YthmgampabhbpoaaDoorD21
import Derived.Test.YthmgampabhbpoaaDoorD22
import Derived.Test.YthmgampabhbpoaaDoorD23
import Derived.Test.YthmgampabhbpoaaDoorD24
import Derived.Test.YthmgampabhbpoaaDoorD25
import Derived.Test.YthmgampabhbpoaaDoorD26
import Derived.Test.YthmgampabhbpoaaDoorD27
import Derived.Test.YthmgampabhbpoaaDoorD28
import Derived.Test.YthmgampabhbpoaaDoorD29
import Derived.Test.YthmgampabhbpoaaDoorD30
import Derived.Test.YthmgampabhbpoaaDoorD31
import Derived.Test.YthmgampabhbpoaaDoorD32
import Derived.Test.YthmgampabhbpoaaDoorD33
import Derived.Test.YthmgampabhbpoaaDoorD34
import Derived.Test.YthmgampabhbpoaaDoorD35
import Derived.Test.YthmgampabhbpoaaDoorD36
import Derived.Test.YthmgampabhbpoaaDoorD37
import Derived.Test.YthmgampabhbpoaaDoorD38
import Derived.Test.YthmgampabhbpoaaDoorD39
import Derived.Test.YthmgampabhbpoaaDoorD40
import Derived.Test.YthmgampabhbpoaaDoorD41
import Derived.Test.YthmgampabhbpoaaDoorD42
import Derived.Test.YthmgampabhbpoaaDoorD43
import Derived.Test.YthmgampabhbpoaaDoorD44
import Derived.Test.YthmgampabhbpoaaDoorD45
import Derived.Test.YthmgampabhbpoaaDoorD46
import Derived.Test.YthmgampabhbpoaaDoorD47
import Derived.Test.YthmgampabhbpoaaDoorD48
import Derived.Test.YthmgampabhbpoaaDoorD49
import Derived.Test.YthmgampabhbpoaaDoorRows
import Derived.Test.YthmgampabhbpoaaDoorCards
import Derived.Test.YthmgampabhbpoaaDoorTie
import Derived.WalkKit
import Derived.ProofKit
import Derived.OpenShut
import Derived.ShutString
import Derived.ChangeOld
import Derived.Below
import Derived.Stop.Joined
import Derived.SevenTiedAt
import Derived.LaidMore
namespace Go.Proofs.YthmgampabhbpoaaDoor
open Go.ChangeShapes Go.WideShapes Go.ChangeAt Go.RowKit
open Go.ChangeMaps (open_string shut_string)
set_option linter.unusedVariables false

theorem fnExactFindEntry_own : ownKnob Tryd.prog.godebug = none := by kernel_rfl
theorem fnExactFindEntry_laidOut : laidOutB Tryd.prog = true := by kernel_rfl

set_option maxRecDepth 100000 in
theorem fnExactFindEntry_lifted (os : Os) (started : os.Started) (H : Type) (enc : TypeId × Value → H) :
    ReturnsInHanded {} Tryd.checked os 5 .any (fun w args => (Rows.fnExactFindEntrySpec.pre enc Tryd.prog Tryd.f5 [] false w args ∧ laidMetH Tryd.prog Rows.fnExactFindEntryRow.laid w) ∧ sizedMet enc Tryd.prog Tryd.f5 (OpenSpec.ofChange Rows.fnExactFindEntrySpec) false w args)
      (Rows.fnExactFindEntrySpec.post enc Tryd.prog Tryd.f5 false true false false) := by
  refine returnsInHanded_of_change_and (C := Tryd.checked) (X := fun w _ => laidMetH Tryd.prog Rows.fnExactFindEntryRow.laid w) (fun _ _ _ hh h => h.of_heap hh) fnExactFindEntry_own started (by kernel_rfl) Tryd.func5
    (ChangeSpec.witness_shaped (enc := enc) (C := Tryd.checked) (os := os) (X := fun w _ => laidMetH Tryd.prog Rows.fnExactFindEntryRow.laid w) false (World.doorLaid Tryd.prog 400 os) #[.agg #[.slice none 0 0], .string ByteArray.empty] 8 rfl (World.shaped_of_RefB (by kernel_rfl) (by kernel_rfl)) (by kernel_rfl) (by kernel_rfl) (by kernel_rfl) (fnExactFindEntry_door_met os _)) ?_
  intro W base args ds gs before hval0 hW _ _ hL _
  have hval : ∀ (j : Nat) t v, Tryd.f5.params[j]? = some t → args[j]? = some v → Value.okWide Tryd.prog W .any base t v := hval0
  have hW' := hW
  obtain ⟨p, q, hA0, hV, rfl, hfz, hnd⟩ := hW
  have hA : DataW.TrodAll enc Tryd.prog W 0 (fun _ => true) true Tryd.f5.params.toList args.toList ds p := hA0
  rw [Tryd.params5] at hA hval
  obtain ⟨v0, vs0, d0, ds0, p0, q0, hargs, rfl, rfl, h0, r0⟩ := trodAll_cons hA
  obtain ⟨v1, vs1, d1, ds1, p1, q1, rfl, rfl, rfl, h1, r1⟩ := trodAll_cons r0
  obtain ⟨rfl, rfl, rfl⟩ := trodAll_nil r1
  obtain rfl : args = #[v0, v1] := by cases args; simp_all
  have hVs : DataW.TrodVars enc Tryd.prog W (fun _ => true) ["loop.example/g00632/impl.vmShape"] gs q := hV
  obtain ⟨g0, rfl⟩ : ∃ g0, gs = [g0] := by
    have hlen := vars_len hVs
    match gs, hlen with
    | [g0], _ => exact ⟨g0, rfl⟩
  have k0 := h0
  have lt0 : ∀ x ∈ p0, x.block < W.heap.size := by obtain ⟨m, hm⟩ := k0; exact DataW.trod_lt m _ _ _ hm
  obtain ⟨a0, len0, cap0, z0, rfl, w0⟩ := open_laws_Memo (hval 0 36 v0 rfl rfl) h0
  obtain ⟨a1, rfl, rfl, rfl, w1⟩ := open_string Tryd.underlying9 (hval 1 9 v1 rfl rfl) h1
  clear hA0 hval0
  refine (fnExactFindEntry_walk a0 len0 cap0 z0 a1 w1 W w0 (fnExactFindEntry_laid hL)).mono fun e W' ⟨he, bel⟩ => ?_
  subst he
  have hv' := vars_below fnExactFindEntry_laidOut bel (by kernel_rfl) hVs
  exact ⟨_, rfl, _, _, _, [], _, q, hW', trodAll_mk1 (shut_bool Tryd.underlying4 _), (trodAll_cons_mk (Below.trod fnExactFindEntry_laidOut (by kernel_rfl) (of_decide_eq_true (by kernel_rfl)) k0 bel lt0) (trodAll_cons_mk (shut_string Tryd.underlying9 w1) trodAll_mk0)), hv', bel.frame _, fun h => by cases h⟩

theorem fnExactFindEntry_said : Rows.FnExactFindEntrySaid :=
  OpenClaim.holds_of_wide 5 Tryd.f5 rfl rfl rfl rfl rfl rfl rfl ⟨rfl, rfl, rfl, rfl, rfl⟩ rfl rfl rfl rfl rfl (by kernel_rfl) Tryd.func5 (by kernel_rfl)
    (of_decide_eq_true (by kernel_rfl)) (by unfold Func.isWrapper; rw [if_neg (of_decide_eq_false (by kernel_rfl))]; exact ⟨rfl, rfl⟩)
    (fun os started H enc _ => fnExactFindEntry_lifted os started H enc)

theorem fnExactFindEntry_card : Rows.FnExactFindEntryCardSaid :=
  Claim7.holds_tied_plain_at .later [] [.wider] true (true, "436dbc765638746d4e0f2b2233015272c87edfca9a8a0189ecf0b313bee75414") true
    fnExactFindEntry_said (fun _ h => by cases h) (by kernel_rfl) (fun _ h => by cases h) fnExactFindEntry_row_tie rfl ⟨rfl, rfl⟩ (by kernel_rfl) rfl
    (fun f fn hf hfn => by
      obtain rfl : f = 5 := Option.some.inj ((show Tryd.prog.funcNamed "loop.example/g00632/laws.FnExactFindEntry" = some 5 by kernel_rfl).symm.trans hf) |>.symm
      obtain rfl : fn = Tryd.f5 := (Option.some.inj (Tryd.func5.symm.trans hfn)).symm
      exact ⟨by kernel_rfl, fun j t ht => by
        rw [Tryd.params5] at ht
        have hm : t ∈ [36, 9] := by simpa using Array.mem_of_getElem? ht
        have hall : ([36, 9].all fun u => !Tryd.prog.wantsStandIn u) = true := by kernel_rfl
        exact (show Tryd.prog.wantsStandIn t = false by simpa using List.all_eq_true.1 hall t hm)⟩)
    (by kernel_rfl)
#print axioms fnExactFindEntry_card
end Go.Proofs.YthmgampabhbpoaaDoor
