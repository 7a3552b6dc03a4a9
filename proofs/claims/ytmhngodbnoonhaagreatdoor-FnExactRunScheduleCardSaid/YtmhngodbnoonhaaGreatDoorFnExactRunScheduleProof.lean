/-
  fnExactRunSchedule: the law FnExactRunSchedule holds of the program at every input (the listed package-level variables as the text lays them): the frame round our walk.
-/
import Derived.Test.YtmhngodbnoonhaaGreatDoorM01
import Derived.Test.YtmhngodbnoonhaaGreatDoorM02
import Derived.Test.YtmhngodbnoonhaaGreatDoorM03
import Derived.Test.YtmhngodbnoonhaaGreatDoorM04
import Derived.Test.YtmhngodbnoonhaaGreatDoorM05
import Derived.Test.YtmhngodbnoonhaaGreatDoorM06
import Derived.Test.YtmhngodbnoonhaaGreatDoorM07
import Derived.Test.YtmhngodbnoonhaaGreatDoorM08
import Derived.Test.YtmhngodbnoonhaaGreatDoorM09
import Derived.Test.YtmhngodbnoonhaaGreatDoorM10
import Derived.Test.YtmhngodbnoonhaaGreatDoorM11
import Derived.Test.YtmhngodbnoonhaaGreatDoorM12
import Derived.Test.YtmhngodbnoonhaaGreatDoorM13
import Derived.Test.YtmhngodbnoonhaaGreatDoorM14
import Derived.Test.YtmhngodbnoonhaaGreatDoorM15
import Derived.Test.YtmhngodbnoonhaaGreatDoorM16
import Derived.Test.YtmhngodbnoonhaaGreatDoorM17
import Derived.Test.YtmhngodbnoonhaaGreatDoorM18
import Derived.Test.YtmhngodbnoonhaaGreatDoorM19
import Derived.Test.YtmhngodbnoonhaaGreatDoorM20
import Derived.Test.YtmhngodbnoonhaaGreatDoorM21
import Derived.Test.YtmhngodbnoonhaaGreatDoorM22
import Derived.Test.YtmhngodbnoonhaaGreatDoorM23
import Derived.Test.YtmhngodbnoonhaaGreatDoorM24
import Derived.Test.YtmhngodbnoonhaaGreatDoorM25
import Derived.Test.YtmhngodbnoonhaaGreatDoorM26
import Derived.Test.YtmhngodbnoonhaaGreatDoorM27
import Derived.Test.YtmhngodbnoonhaaGreatDoorM28
import Derived.Test.YtmhngodbnoonhaaGreatDoorM29
import Derived.Test.YtmhngodbnoonhaaGreatDoorM30
import Derived.Test.YtmhngodbnoonhaaGreatDoorM31
import Derived.Test.YtmhngodbnoonhaaGreatDoorM32
import Derived.Test.YtmhngodbnoonhaaGreatDoorM33
import Derived.Test.YtmhngodbnoonhaaGreatDoorM34
import Derived.Test.YtmhngodbnoonhaaGreatDoorM35
import Derived.Test.YtmhngodbnoonhaaGreatDoorM36
import Derived.Test.YtmhngodbnoonhaaGreatDoorM37
import Derived.Test.YtmhngodbnoonhaaGreatDoorM38
import Derived.Test.YtmhngodbnoonhaaGreatDoorM39
import Derived.Test.YtmhngodbnoonhaaGreatDoorM40
import Derived.Test.YtmhngodbnoonhaaGreatDoorM41
import Derived.Test.YtmhngodbnoonhaaGreatDoorM42
import Derived.Test.YtmhngodbnoonhaaGreatDoorM43
import Derived.Test.YtmhngodbnoonhaaGreatDoorM44
import Derived.Test.YtmhngodbnoonhaaGreatDoorM45
import Derived.Test.YtmhngodbnoonhaaGreatDoorM46
import Derived.Test.YtmhngodbnoonhaaGreatDoorM47
import Derived.Test.YtmhngodbnoonhaaGreatDoorM48
import Derived.Test.YtmhngodbnoonhaaGreatDoorM49
import Derived.Test.YtmhngodbnoonhaaGreatDoorRows
import Derived.Test.YtmhngodbnoonhaaGreatDoorCards
import Derived.Test.YtmhngodbnoonhaaGreatDoorTie
import Derived.WalkKit
import Derived.ProofKit
import Derived.OpenShut
import Derived.ShutString
import Derived.ChangeOld
import Derived.Below
import Derived.Stop.Joined
import Derived.SevenTiedAt
import Derived.LaidMore
namespace Go.Proofs.YtmhngodbnoonhaaGreatDoor
open Go.ChangeShapes Go.WideShapes Go.ChangeAt Go.RowKit
open Go.ChangeMaps (open_string shut_string)
set_option linter.unusedVariables false

theorem fnExactRunSchedule_own : ownKnob Tryz.prog.godebug = none := by kernel_rfl
theorem fnExactRunSchedule_laidOut : laidOutB Tryz.prog = true := by kernel_rfl

set_option maxRecDepth 100000 in
theorem fnExactRunSchedule_lifted (os : Os) (started : os.Started) (H : Type) (enc : TypeId × Value → H) :
    ReturnsInHanded {} Tryz.checked os 5 .any (fun w args => (Rows.fnExactRunScheduleSpec.pre enc Tryz.prog Tryz.f5 [] false w args ∧ laidMetH Tryz.prog Rows.fnExactRunScheduleRow.laid w) ∧ sizedMet enc Tryz.prog Tryz.f5 (OpenSpec.ofChange Rows.fnExactRunScheduleSpec) false w args)
      (Rows.fnExactRunScheduleSpec.post enc Tryz.prog Tryz.f5 false true false false) := by
  refine returnsInHanded_of_change_and (C := Tryz.checked) (X := fun w _ => laidMetH Tryz.prog Rows.fnExactRunScheduleRow.laid w) (fun _ _ _ hh h => h.of_heap hh) fnExactRunSchedule_own started (by kernel_rfl) Tryz.func5
    (ChangeSpec.witness_shaped (enc := enc) (C := Tryz.checked) (os := os) (X := fun w _ => laidMetH Tryz.prog Rows.fnExactRunScheduleRow.laid w) false (World.doorLaid Tryz.prog 400 os) #[.agg #[.slice none 0 0], .slice none 0 0] 8 rfl (World.shaped_of_RefB (by kernel_rfl) (by kernel_rfl)) (by kernel_rfl) (by kernel_rfl) (by kernel_rfl) (fnExactRunSchedule_door_met os _)) ?_
  intro W base args ds gs before hval0 hW _ _ hL _
  have hval : ∀ (j : Nat) t v, Tryz.f5.params[j]? = some t → args[j]? = some v → Value.okWide Tryz.prog W .any base t v := hval0
  have hW' := hW
  obtain ⟨p, q, hA0, hV, rfl, hfz, hnd⟩ := hW
  have hA : DataW.TrodAll enc Tryz.prog W 0 (fun _ => true) true Tryz.f5.params.toList args.toList ds p := hA0
  rw [Tryz.params5] at hA hval
  obtain ⟨v0, vs0, d0, ds0, p0, q0, hargs, rfl, rfl, h0, r0⟩ := trodAll_cons hA
  obtain ⟨v1, vs1, d1, ds1, p1, q1, rfl, rfl, rfl, h1, r1⟩ := trodAll_cons r0
  obtain ⟨rfl, rfl, rfl⟩ := trodAll_nil r1
  obtain rfl : args = #[v0, v1] := by cases args; simp_all
  have hVs : DataW.TrodVars enc Tryz.prog W (fun _ => true) ["loop.example/g00632/impl.vmShape"] gs q := hV
  obtain ⟨g0, rfl⟩ : ∃ g0, gs = [g0] := by
    have hlen := vars_len hVs
    match gs, hlen with
    | [g0], _ => exact ⟨g0, rfl⟩
  have k0 := h0
  have lt0 : ∀ x ∈ p0, x.block < W.heap.size := by obtain ⟨m, hm⟩ := k0; exact DataW.trod_lt m _ _ _ hm
  obtain ⟨a0, len0, cap0, z0, rfl, w0⟩ := open_laws_Program (hval 0 49 v0 rfl rfl) h0
  obtain ⟨a1, len1, cap1, rfl⟩ := okWide_slice Tryz.underlying27 (hval 1 27 v1 rfl rfl)
  have k1 := h1
  have lt1 : ∀ x ∈ p1, x.block < W.heap.size := by obtain ⟨m, hm⟩ := k1; exact DataW.trod_lt m _ _ _ hm
  obtain ⟨z1, w1⟩ : ∃ zs, IsRow .i64 W a1 len1 cap1 zs := by
    obtain ⟨fuel, hf⟩ := h1
    rcases open_ints Tryz.underlying27 Tryz.underlying3 (by kernel_rfl) hf with ⟨hcs, _⟩ | ⟨x, l, c, zs, hcs, _, hl, hm, hz, _, hcell, hwz⟩
    · simp [Value.cells] at hcs
      obtain ⟨rfl, rfl, rfl⟩ := hcs
      exact ⟨[], .inl ⟨rfl, rfl, rfl, rfl⟩⟩
    · simp [Value.cells] at hcs
      obtain ⟨rfl, rfl, rfl⟩ := hcs
      exact ⟨zs, .inr ⟨_, rfl, hl, hm, by simpa using hz, hcell, hwz⟩⟩
  clear hA0 hval0
  refine (fnExactRunSchedule_walk a0 len0 cap0 z0 a1 len1 cap1 z1 W w0 w1 (fnExactRunSchedule_laid hL)).mono fun e W' ⟨he, bel⟩ => ?_
  subst he
  have hv' := vars_below fnExactRunSchedule_laidOut bel (by kernel_rfl) hVs
  exact ⟨_, rfl, _, _, _, [], _, q, hW', trodAll_mk1 (shut_bool Tryz.underlying4 _), (trodAll_cons_mk (Below.trod fnExactRunSchedule_laidOut (by kernel_rfl) (of_decide_eq_true (by kernel_rfl)) k0 bel lt0) (trodAll_cons_mk (Below.trod fnExactRunSchedule_laidOut (by kernel_rfl) (of_decide_eq_true (by kernel_rfl)) k1 bel lt1) trodAll_mk0)), hv', bel.frame _, fun h => by cases h⟩

theorem fnExactRunSchedule_said : Rows.FnExactRunScheduleSaid :=
  OpenClaim.holds_of_wide 5 Tryz.f5 rfl rfl rfl rfl rfl rfl rfl ⟨rfl, rfl, rfl, rfl, rfl⟩ rfl rfl rfl rfl rfl (by kernel_rfl) Tryz.func5 (by kernel_rfl)
    (of_decide_eq_true (by kernel_rfl)) (by unfold Func.isWrapper; rw [if_neg (of_decide_eq_false (by kernel_rfl))]; exact ⟨rfl, rfl⟩)
    (fun os started H enc _ => fnExactRunSchedule_lifted os started H enc)

theorem fnExactRunSchedule_card : Rows.FnExactRunScheduleCardSaid :=
  Claim7.holds_tied_plain_at .later [] [.wider] true (true, "d2e7faa8c723045132a52af31c9ae4e1b1d3d70ec5760028c4d7a16a04bf630d") true
    fnExactRunSchedule_said (fun _ h => by cases h) (by kernel_rfl) (fun _ h => by cases h) fnExactRunSchedule_row_tie rfl ⟨rfl, rfl⟩ (by kernel_rfl) rfl
    (fun f fn hf hfn => by
      obtain rfl : f = 5 := Option.some.inj ((show Tryz.prog.funcNamed "loop.example/g00632/laws.FnExactRunSchedule" = some 5 by kernel_rfl).symm.trans hf) |>.symm
      obtain rfl : fn = Tryz.f5 := (Option.some.inj (Tryz.func5.symm.trans hfn)).symm
      exact ⟨by kernel_rfl, fun j t ht => by
        rw [Tryz.params5] at ht
        have hm : t ∈ [49, 27] := by simpa using Array.mem_of_getElem? ht
        have hall : ([49, 27].all fun u => !Tryz.prog.wantsStandIn u) = true := by kernel_rfl
        exact (show Tryz.prog.wantsStandIn t = false by simpa using List.all_eq_true.1 hall t hm)⟩)
    (by kernel_rfl)
#print axioms fnExactRunSchedule_card
end Go.Proofs.YtmhngodbnoonhaaGreatDoor
