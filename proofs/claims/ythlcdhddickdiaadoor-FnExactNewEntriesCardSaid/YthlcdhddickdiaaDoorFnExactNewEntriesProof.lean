/-
  fnExactNewEntries: the law FnExactNewEntries holds of the program at every input (the listed package-level variables as the text lays them): the frame round our walk.
-/
import Derived.Test.YthlcdhddickdiaaDoorE01
import Derived.Test.YthlcdhddickdiaaDoorE02
import Derived.Test.YthlcdhddickdiaaDoorE03
import Derived.Test.YthlcdhddickdiaaDoorE04
import Derived.Test.YthlcdhddickdiaaDoorE05
import Derived.Test.YthlcdhddickdiaaDoorE06
import Derived.Test.YthlcdhddickdiaaDoorE07
import Derived.Test.YthlcdhddickdiaaDoorE08
import Derived.Test.YthlcdhddickdiaaDoorE09
import Derived.Test.YthlcdhddickdiaaDoorE10
import Derived.Test.YthlcdhddickdiaaDoorE11
import Derived.Test.YthlcdhddickdiaaDoorE12
import Derived.Test.YthlcdhddickdiaaDoorE13
import Derived.Test.YthlcdhddickdiaaDoorE14
import Derived.Test.YthlcdhddickdiaaDoorE15
import Derived.Test.YthlcdhddickdiaaDoorE16
import Derived.Test.YthlcdhddickdiaaDoorE17
import Derived.Test.YthlcdhddickdiaaDoorE18
import Derived.Test.YthlcdhddickdiaaDoorE19
import Derived.Test.YthlcdhddickdiaaDoorE20
import Derived.Test.YthlcdhddickdiaaDoorE21
import Derived.Test.YthlcdhddickdiaaDoorE22
import Derived.Test.YthlcdhddickdiaaDoorE23
import Derived.Test.YthlcdhddickdiaaDoorE24
import Derived.Test.YthlcdhddickdiaaDoorE25
import Derived.Test.YthlcdhddickdiaaDoorE26
import Derived.Test.YthlcdhddickdiaaDoorE27
import Derived.Test.YthlcdhddickdiaaDoorE28
import Derived.Test.YthlcdhddickdiaaDoorE29
import Derived.Test.YthlcdhddickdiaaDoorE30
import Derived.Test.YthlcdhddickdiaaDoorE31
import Derived.Test.YthlcdhddickdiaaDoorE32
import Derived.Test.YthlcdhddickdiaaDoorE33
import Derived.Test.YthlcdhddickdiaaDoorE34
import Derived.Test.YthlcdhddickdiaaDoorE35
import Derived.Test.YthlcdhddickdiaaDoorE36
import Derived.Test.YthlcdhddickdiaaDoorE37
import Derived.Test.YthlcdhddickdiaaDoorE39
import Derived.Test.YthlcdhddickdiaaDoorE40
import Derived.Test.YthlcdhddickdiaaDoorE41
import Derived.Test.YthlcdhddickdiaaDoorE42
import Derived.Test.YthlcdhddickdiaaDoorE50
import Derived.Test.YthlcdhddickdiaaDoorE51
import Derived.Test.YthlcdhddickdiaaDoorE52
import Derived.Test.YthlcdhddickdiaaDoorRows
import Derived.Test.YthlcdhddickdiaaDoorCards
import Derived.Test.YthlcdhddickdiaaDoorTie
import Derived.WalkKit
import Derived.ProofKit
import Derived.OpenShut
import Derived.ShutString
import Derived.ChangeOld
import Derived.Below
import Derived.Stop.Joined
import Derived.SevenTiedAt
import Derived.LaidMore
namespace Go.Proofs.YthlcdhddickdiaaDoor
open Go.ChangeShapes Go.WideShapes Go.ChangeAt Go.RowKit
open Go.ChangeMaps (open_string shut_string)
set_option linter.unusedVariables false

theorem fnExactNewEntries_own : ownKnob Tryd.prog.godebug = none := by kernel_rfl
theorem fnExactNewEntries_laidOut : laidOutB Tryd.prog = true := by kernel_rfl

set_option maxRecDepth 100000 in
theorem fnExactNewEntries_lifted (os : Os) (started : os.Started) (H : Type) (enc : TypeId × Value → H) :
    ReturnsInHanded {} Tryd.checked os 5 .any (fun w args => (Rows.fnExactNewEntriesSpec.pre enc Tryd.prog Tryd.f5 [] false w args ∧ laidMetH Tryd.prog Rows.fnExactNewEntriesRow.laid w) ∧ sizedMet enc Tryd.prog Tryd.f5 (OpenSpec.ofChange Rows.fnExactNewEntriesSpec) false w args)
      (Rows.fnExactNewEntriesSpec.post enc Tryd.prog Tryd.f5 false true false false) := by
  refine returnsInHanded_of_change_and (C := Tryd.checked) (X := fun w _ => laidMetH Tryd.prog Rows.fnExactNewEntriesRow.laid w) (fun _ _ _ hh h => h.of_heap hh) fnExactNewEntries_own started (by kernel_rfl) Tryd.func5
    (ChangeSpec.witness_shaped (enc := enc) (C := Tryd.checked) (os := os) (X := fun w _ => laidMetH Tryd.prog Rows.fnExactNewEntriesRow.laid w) false (World.doorLaid Tryd.prog 400 os) #[.agg #[.slice none 0 0], .agg #[.slice none 0 0]] 8 rfl (World.shaped_of_RefB (by kernel_rfl) (by kernel_rfl)) (by kernel_rfl) (by kernel_rfl) (by kernel_rfl) (fnExactNewEntries_door_met os _)) ?_
  intro W base args ds gs before hval0 hW _ _ hL _
  have hval : ∀ (j : Nat) t v, Tryd.f5.params[j]? = some t → args[j]? = some v → Value.okWide Tryd.prog W .any base t v := hval0
  have hW' := hW
  obtain ⟨p, q, hA0, hV, rfl, hfz, hnd⟩ := hW
  have hA : DataW.TrodAll enc Tryd.prog W 0 (fun _ => true) true Tryd.f5.params.toList args.toList ds p := hA0
  rw [Tryd.params5] at hA hval
  obtain ⟨v0, vs0, d0, ds0, p0, q0, hargs, rfl, rfl, h0, r0⟩ := trodAll_cons hA
  obtain ⟨v1, vs1, d1, ds1, p1, q1, rfl, rfl, rfl, h1, r1⟩ := trodAll_cons r0
  obtain ⟨rfl, rfl, rfl⟩ := trodAll_nil r1
  obtain rfl : args = #[v0, v1] := by cases args; simp_all
  have hVs : DataW.TrodVars enc Tryd.prog W (fun _ => true) ["loop.example/g00632/impl.vmShape"] gs q := hV
  obtain ⟨g0, rfl⟩ : ∃ g0, gs = [g0] := by
    have hlen := vars_len hVs
    match gs, hlen with
    | [g0], _ => exact ⟨g0, rfl⟩
  have k0 := h0
  have lt0 : ∀ x ∈ p0, x.block < W.heap.size := by obtain ⟨m, hm⟩ := k0; exact DataW.trod_lt m _ _ _ hm
  obtain ⟨a0, len0, cap0, z0, rfl, w0⟩ := open_laws_Memo (hval 0 24 v0 rfl rfl) h0
  have k1 := h1
  have lt1 : ∀ x ∈ p1, x.block < W.heap.size := by obtain ⟨m, hm⟩ := k1; exact DataW.trod_lt m _ _ _ hm
  obtain ⟨a1, len1, cap1, z1, rfl, w1⟩ := open_laws_Memo (hval 1 24 v1 rfl rfl) h1
  clear hA0 hval0
  refine (fnExactNewEntries_walk a0 len0 cap0 z0 a1 len1 cap1 z1 W w0 w1 (fnExactNewEntries_laid hL)).mono fun e W' ⟨he, bel⟩ => ?_
  subst he
  have hv' := vars_below fnExactNewEntries_laidOut bel (by kernel_rfl) hVs
  exact ⟨_, rfl, _, _, _, [], _, q, hW', trodAll_mk1 (shut_bool Tryd.underlying4 _), (trodAll_cons_mk (Below.trod fnExactNewEntries_laidOut (by kernel_rfl) (of_decide_eq_true (by kernel_rfl)) k0 bel lt0) (trodAll_cons_mk (Below.trod fnExactNewEntries_laidOut (by kernel_rfl) (of_decide_eq_true (by kernel_rfl)) k1 bel lt1) trodAll_mk0)), hv', bel.frame _, fun h => by cases h⟩

theorem fnExactNewEntries_said : Rows.FnExactNewEntriesSaid :=
  OpenClaim.holds_of_wide 5 Tryd.f5 rfl rfl rfl rfl rfl rfl rfl ⟨rfl, rfl, rfl, rfl, rfl⟩ rfl rfl rfl rfl rfl (by kernel_rfl) Tryd.func5 (by kernel_rfl)
    (of_decide_eq_true (by kernel_rfl)) (by unfold Func.isWrapper; rw [if_neg (of_decide_eq_false (by kernel_rfl))]; exact ⟨rfl, rfl⟩)
    (fun os started H enc _ => fnExactNewEntries_lifted os started H enc)

theorem fnExactNewEntries_card : Rows.FnExactNewEntriesCardSaid :=
  Claim7.holds_tied_plain_at .later [] [.wider] true (true, "ef15ae91c710c50f7aef3181bbf445c9c0000124185192c8bac26d78c8829fbb") true
    fnExactNewEntries_said (fun _ h => by cases h) (by kernel_rfl) (fun _ h => by cases h) fnExactNewEntries_row_tie rfl ⟨rfl, rfl⟩ (by kernel_rfl) rfl
    (fun f fn hf hfn => by
      obtain rfl : f = 5 := Option.some.inj ((show Tryd.prog.funcNamed "loop.example/g00632/laws.FnExactNewEntries" = some 5 by kernel_rfl).symm.trans hf) |>.symm
      obtain rfl : fn = Tryd.f5 := (Option.some.inj (Tryd.func5.symm.trans hfn)).symm
      exact ⟨by kernel_rfl, fun j t ht => by
        rw [Tryd.params5] at ht
        have hm : t ∈ [24, 24] := by simpa using Array.mem_of_getElem? ht
        have hall : ([24, 24].all fun u => !Tryd.prog.wantsStandIn u) = true := by kernel_rfl
        exact (show Tryd.prog.wantsStandIn t = false by simpa using List.all_eq_true.1 hall t hm)⟩)
    (by kernel_rfl)
#print axioms fnExactNewEntries_card
end Go.Proofs.YthlcdhddickdiaaDoor
