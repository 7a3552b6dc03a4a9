/-
  fnClasses: the law FnClasses holds of the program at every input (the listed package-level variables as the text lays them): the frame round our walk.
-/
import Derived.Test.YtojcgajjnmjjpaaGreatDoorE01
import Derived.Test.YtojcgajjnmjjpaaGreatDoorE02
import Derived.Test.YtojcgajjnmjjpaaGreatDoorE03
import Derived.Test.YtojcgajjnmjjpaaGreatDoorE04
import Derived.Test.YtojcgajjnmjjpaaGreatDoorE05
import Derived.Test.YtojcgajjnmjjpaaGreatDoorE06
import Derived.Test.YtojcgajjnmjjpaaGreatDoorE07
import Derived.Test.YtojcgajjnmjjpaaGreatDoorE08
import Derived.Test.YtojcgajjnmjjpaaGreatDoorE09
import Derived.Test.YtojcgajjnmjjpaaGreatDoorE10
import Derived.Test.YtojcgajjnmjjpaaGreatDoorE11
import Derived.Test.YtojcgajjnmjjpaaGreatDoorE12
import Derived.Test.YtojcgajjnmjjpaaGreatDoorE13
import Derived.Test.YtojcgajjnmjjpaaGreatDoorE14
import Derived.Test.YtojcgajjnmjjpaaGreatDoorE15
import Derived.Test.YtojcgajjnmjjpaaGreatDoorE16
import Derived.Test.YtojcgajjnmjjpaaGreatDoorE17
import Derived.Test.YtojcgajjnmjjpaaGreatDoorE18
import Derived.Test.YtojcgajjnmjjpaaGreatDoorE19
import Derived.Test.YtojcgajjnmjjpaaGreatDoorE20
import Derived.Test.YtojcgajjnmjjpaaGreatDoorE21
import Derived.Test.YtojcgajjnmjjpaaGreatDoorE22
import Derived.Test.YtojcgajjnmjjpaaGreatDoorE23
import Derived.Test.YtojcgajjnmjjpaaGreatDoorE24
import Derived.Test.YtojcgajjnmjjpaaGreatDoorE25
import Derived.Test.YtojcgajjnmjjpaaGreatDoorE26
import Derived.Test.YtojcgajjnmjjpaaGreatDoorE27
import Derived.Test.YtojcgajjnmjjpaaGreatDoorE28
import Derived.Test.YtojcgajjnmjjpaaGreatDoorE29
import Derived.Test.YtojcgajjnmjjpaaGreatDoorE30
import Derived.Test.YtojcgajjnmjjpaaGreatDoorE31
import Derived.Test.YtojcgajjnmjjpaaGreatDoorE32
import Derived.Test.YtojcgajjnmjjpaaGreatDoorE33
import Derived.Test.YtojcgajjnmjjpaaGreatDoorE34
import Derived.Test.YtojcgajjnmjjpaaGreatDoorE35
import Derived.Test.YtojcgajjnmjjpaaGreatDoorE36
import Derived.Test.YtojcgajjnmjjpaaGreatDoorE37
import Derived.Test.YtojcgajjnmjjpaaGreatDoorE38
import Derived.Test.YtojcgajjnmjjpaaGreatDoorE39
import Derived.Test.YtojcgajjnmjjpaaGreatDoorE40
import Derived.Test.YtojcgajjnmjjpaaGreatDoorE41
import Derived.Test.YtojcgajjnmjjpaaGreatDoorE42
import Derived.Test.YtojcgajjnmjjpaaGreatDoorE43
import Derived.Test.YtojcgajjnmjjpaaGreatDoorE44
import Derived.Test.YtojcgajjnmjjpaaGreatDoorE45
import Derived.Test.YtojcgajjnmjjpaaGreatDoorE46
import Derived.Test.YtojcgajjnmjjpaaGreatDoorE47
import Derived.Test.YtojcgajjnmjjpaaGreatDoorE48
import Derived.Test.YtojcgajjnmjjpaaGreatDoorE49
import Derived.Test.YtojcgajjnmjjpaaGreatDoorRows
import Derived.Test.YtojcgajjnmjjpaaGreatDoorCards
import Derived.Test.YtojcgajjnmjjpaaGreatDoorTie
import Derived.WalkKit
import Derived.ProofKit
import Derived.OpenShut
import Derived.ShutString
import Derived.ChangeOld
import Derived.Below
import Derived.Stop.Joined
import Derived.SevenTiedAt
import Derived.LaidMore
namespace Go.Proofs.YtojcgajjnmjjpaaGreatDoor
open Go.ChangeShapes Go.WideShapes Go.ChangeAt Go.RowKit
open Go.ChangeMaps (open_string shut_string)
set_option linter.unusedVariables false

theorem fnClasses_own : ownKnob Tryz.prog.godebug = none := by kernel_rfl
theorem fnClasses_laidOut : laidOutB Tryz.prog = true := by kernel_rfl

set_option maxRecDepth 100000 in
theorem fnClasses_lifted (os : Os) (started : os.Started) (H : Type) (enc : TypeId × Value → H) :
    ReturnsInHanded {} Tryz.checked os 3 .any (fun w args => (Rows.fnClassesSpec.pre enc Tryz.prog Tryz.f3 [] false w args ∧ laidMetH Tryz.prog Rows.fnClassesRow.laid w) ∧ sizedMet enc Tryz.prog Tryz.f3 (OpenSpec.ofChange Rows.fnClassesSpec) false w args)
      (Rows.fnClassesSpec.post enc Tryz.prog Tryz.f3 false true false false) := by
  refine returnsInHanded_of_change_and (C := Tryz.checked) (X := fun w _ => laidMetH Tryz.prog Rows.fnClassesRow.laid w) (fun _ _ _ hh h => h.of_heap hh) fnClasses_own started (by kernel_rfl) Tryz.func3
    (ChangeSpec.witness_shaped (enc := enc) (C := Tryz.checked) (os := os) (X := fun w _ => laidMetH Tryz.prog Rows.fnClassesRow.laid w) false (World.doorLaid Tryz.prog 400 os) #[.slice none 0 0] 8 rfl (World.shaped_of_RefB (by kernel_rfl) (by kernel_rfl)) (by kernel_rfl) (by kernel_rfl) (by kernel_rfl) (fnClasses_door_met os _)) ?_
  intro W base args ds gs before hval0 hW _ _ hL _
  have hval : ∀ (j : Nat) t v, Tryz.f3.params[j]? = some t → args[j]? = some v → Value.okWide Tryz.prog W .any base t v := hval0
  have hW' := hW
  obtain ⟨p, q, hA0, hV, rfl, hfz, hnd⟩ := hW
  have hA : DataW.TrodAll enc Tryz.prog W 0 (fun _ => true) true Tryz.f3.params.toList args.toList ds p := hA0
  rw [Tryz.params3] at hA hval
  obtain ⟨v0, vs0, d0, ds0, p0, q0, hargs, rfl, rfl, h0, r0⟩ := trodAll_cons hA
  obtain ⟨rfl, rfl, rfl⟩ := trodAll_nil r0
  obtain rfl : args = #[v0] := by cases args; simp_all
  have hVs : DataW.TrodVars enc Tryz.prog W (fun _ => true) ["loop.example/g00632/impl.vmShape"] gs q := hV
  obtain ⟨g0, rfl⟩ : ∃ g0, gs = [g0] := by
    have hlen := vars_len hVs
    match gs, hlen with
    | [g0], _ => exact ⟨g0, rfl⟩
  obtain ⟨a0, len0, cap0, rfl⟩ := okWide_slice Tryz.underlying22 (hval 0 22 v0 rfl rfl)
  have k0 := h0
  have lt0 : ∀ x ∈ p0, x.block < W.heap.size := by obtain ⟨m, hm⟩ := k0; exact DataW.trod_lt m _ _ _ hm
  obtain ⟨z0, w0⟩ : ∃ zs, IsRow .u8 W a0 len0 cap0 zs := by
    obtain ⟨fuel, hf⟩ := h0
    rcases open_ints Tryz.underlying22 Tryz.underlying5 (by kernel_rfl) hf with ⟨hcs, _⟩ | ⟨x, l, c, zs, hcs, _, hl, hm, hz, _, hcell, hwz⟩
    · simp [Value.cells] at hcs
      obtain ⟨rfl, rfl, rfl⟩ := hcs
      exact ⟨[], .inl ⟨rfl, rfl, rfl, rfl⟩⟩
    · simp [Value.cells] at hcs
      obtain ⟨rfl, rfl, rfl⟩ := hcs
      exact ⟨zs, .inr ⟨_, rfl, hl, hm, by simpa using hz, hcell, hwz⟩⟩
  clear hA0 hval0
  refine (fnClasses_walk a0 len0 cap0 z0 W w0 (fnClasses_laid hL)).mono fun e W' ⟨he, bel⟩ => ?_
  subst he
  have hv' := vars_below fnClasses_laidOut bel (by kernel_rfl) hVs
  exact ⟨_, rfl, _, _, _, [], _, q, hW', trodAll_mk1 (shut_bool Tryz.underlying4 _), (trodAll_cons_mk (Below.trod fnClasses_laidOut (by kernel_rfl) (of_decide_eq_true (by kernel_rfl)) k0 bel lt0) trodAll_mk0), hv', bel.frame _, fun h => by cases h⟩

theorem fnClasses_said : Rows.FnClassesSaid :=
  OpenClaim.holds_of_wide 3 Tryz.f3 rfl rfl rfl rfl rfl rfl rfl ⟨rfl, rfl, rfl, rfl, rfl⟩ rfl rfl rfl rfl rfl (by kernel_rfl) Tryz.func3 (by kernel_rfl)
    (of_decide_eq_true (by kernel_rfl)) (by unfold Func.isWrapper; rw [if_neg (of_decide_eq_false (by kernel_rfl))]; exact ⟨rfl, rfl⟩)
    (fun os started H enc _ => fnClasses_lifted os started H enc)

theorem fnClasses_card : Rows.FnClassesCardSaid :=
  Claim7.holds_tied_plain_at .later [] [.wider] true (true, "0f103dad0204a7dbdcdcdb3400bf615a9ff8f7a34bcb8edd983501338bcdd5fe") true
    fnClasses_said (fun _ h => by cases h) (by kernel_rfl) (fun _ h => by cases h) fnClasses_row_tie rfl ⟨rfl, rfl⟩ (by kernel_rfl) rfl
    (fun f fn hf hfn => by
      obtain rfl : f = 3 := Option.some.inj ((show Tryz.prog.funcNamed "loop.example/g00632/laws.FnClasses" = some 3 by kernel_rfl).symm.trans hf) |>.symm
      obtain rfl : fn = Tryz.f3 := (Option.some.inj (Tryz.func3.symm.trans hfn)).symm
      exact ⟨by kernel_rfl, fun j t ht => by
        rw [Tryz.params3] at ht
        have hm : t ∈ [22] := by simpa using Array.mem_of_getElem? ht
        have hall : ([22].all fun u => !Tryz.prog.wantsStandIn u) = true := by kernel_rfl
        exact (show Tryz.prog.wantsStandIn t = false by simpa using List.all_eq_true.1 hall t hm)⟩)
    (by kernel_rfl)
#print axioms fnClasses_card
end Go.Proofs.YtojcgajjnmjjpaaGreatDoor
