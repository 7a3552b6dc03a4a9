/-
  fnExactRunSchedule: the law FnExactRunSchedule holds of the program at every input (the listed package-level variables as the text lays them): the frame round our walk.
-/
import Derived.Test.YtjgffnlmjmibgaaGreatDoorE01
import Derived.Test.YtjgffnlmjmibgaaGreatDoorE02
import Derived.Test.YtjgffnlmjmibgaaGreatDoorE03
import Derived.Test.YtjgffnlmjmibgaaGreatDoorE04
import Derived.Test.YtjgffnlmjmibgaaGreatDoorE05
import Derived.Test.YtjgffnlmjmibgaaGreatDoorE06
import Derived.Test.YtjgffnlmjmibgaaGreatDoorE07
import Derived.Test.YtjgffnlmjmibgaaGreatDoorE08
import Derived.Test.YtjgffnlmjmibgaaGreatDoorE09
import Derived.Test.YtjgffnlmjmibgaaGreatDoorE10
import Derived.Test.YtjgffnlmjmibgaaGreatDoorE11
import Derived.Test.YtjgffnlmjmibgaaGreatDoorE12
import Derived.Test.YtjgffnlmjmibgaaGreatDoorE13
import Derived.Test.YtjgffnlmjmibgaaGreatDoorE14
import Derived.Test.YtjgffnlmjmibgaaGreatDoorE15
import Derived.Test.YtjgffnlmjmibgaaGreatDoorE16
import Derived.Test.YtjgffnlmjmibgaaGreatDoorE17
import Derived.Test.YtjgffnlmjmibgaaGreatDoorE18
import Derived.Test.YtjgffnlmjmibgaaGreatDoorE19
import Derived.Test.YtjgffnlmjmibgaaGreatDoorE20
import Derived.Test.YtjgffnlmjmibgaaGreatDoorE21
import Derived.Test.YtjgffnlmjmibgaaGreatDoorE22
import Derived.Test.YtjgffnlmjmibgaaGreatDoorE23
import Derived.Test.YtjgffnlmjmibgaaGreatDoorE24
import Derived.Test.YtjgffnlmjmibgaaGreatDoorE25
import Derived.Test.YtjgffnlmjmibgaaGreatDoorE26
import Derived.Test.YtjgffnlmjmibgaaGreatDoorE27
import Derived.Test.YtjgffnlmjmibgaaGreatDoorE28
import Derived.Test.YtjgffnlmjmibgaaGreatDoorE29
import Derived.Test.YtjgffnlmjmibgaaGreatDoorE30
import Derived.Test.YtjgffnlmjmibgaaGreatDoorE31
import Derived.Test.YtjgffnlmjmibgaaGreatDoorE32
import Derived.Test.YtjgffnlmjmibgaaGreatDoorE33
import Derived.Test.YtjgffnlmjmibgaaGreatDoorE34
import Derived.Test.YtjgffnlmjmibgaaGreatDoorE35
import Derived.Test.YtjgffnlmjmibgaaGreatDoorE36
import Derived.Test.YtjgffnlmjmibgaaGreatDoorE37
import Derived.Test.YtjgffnlmjmibgaaGreatDoorE38
import Derived.Test.YtjgffnlmjmibgaaGreatDoorE39
import Derived.Test.YtjgffnlmjmibgaaGreatDoorE40
import Derived.Test.YtjgffnlmjmibgaaGreatDoorE41
import Derived.Test.YtjgffnlmjmibgaaGreatDoorE42
import Derived.Test.YtjgffnlmjmibgaaGreatDoorE43
import Derived.Test.YtjgffnlmjmibgaaGreatDoorE44
import Derived.Test.YtjgffnlmjmibgaaGreatDoorE45
import Derived.Test.YtjgffnlmjmibgaaGreatDoorE46
import Derived.Test.YtjgffnlmjmibgaaGreatDoorE47
import Derived.Test.YtjgffnlmjmibgaaGreatDoorE48
import Derived.Test.YtjgffnlmjmibgaaGreatDoorE49
import Derived.Test.YtjgffnlmjmibgaaGreatDoorRows
import Derived.Test.YtjgffnlmjmibgaaGreatDoorCards
import Derived.Test.YtjgffnlmjmibgaaGreatDoorTie
import Derived.WalkKit
import Derived.ProofKit
import Derived.OpenShut
import Derived.ShutString
import Derived.ChangeOld
import Derived.Below
import Derived.Stop.Joined
import Derived.SevenTiedAt
import Derived.LaidMore
namespace Go.Proofs.YtjgffnlmjmibgaaGreatDoor
open Go.ChangeShapes Go.WideShapes Go.ChangeAt Go.RowKit
open Go.ChangeMaps (open_string shut_string)
set_option linter.unusedVariables false

theorem fnExactRunSchedule_own : ownKnob Tryz.prog.godebug = none := by kernel_rfl
theorem fnExactRunSchedule_laidOut : laidOutB Tryz.prog = true := by kernel_rfl

set_option maxRecDepth 100000 in
theorem fnExactRunSchedule_lifted (os : Os) (started : os.Started) (H : Type) (enc : TypeId × Value → H) :
    ReturnsInHanded {} Tryz.checked os 7 .any (fun w args => (Rows.fnExactRunScheduleSpec.pre enc Tryz.prog Tryz.f7 [] false w args ∧ laidMetH Tryz.prog Rows.fnExactRunScheduleRow.laid w) ∧ sizedMet enc Tryz.prog Tryz.f7 (OpenSpec.ofChange Rows.fnExactRunScheduleSpec) false w args)
      (Rows.fnExactRunScheduleSpec.post enc Tryz.prog Tryz.f7 false true false false) := by
  refine returnsInHanded_of_change_and (C := Tryz.checked) (X := fun w _ => laidMetH Tryz.prog Rows.fnExactRunScheduleRow.laid w) (fun _ _ _ hh h => h.of_heap hh) fnExactRunSchedule_own started (by kernel_rfl) Tryz.func7
    (ChangeSpec.witness_shaped (enc := enc) (C := Tryz.checked) (os := os) (X := fun w _ => laidMetH Tryz.prog Rows.fnExactRunScheduleRow.laid w) false (World.doorLaid Tryz.prog 400 os) #[.agg #[.slice none 0 0], .slice none 0 0] 8 rfl (World.shaped_of_RefB (by kernel_rfl) (by kernel_rfl)) (by kernel_rfl) (by kernel_rfl) (by kernel_rfl) (fnExactRunSchedule_door_met os _)) ?_
  intro W base args ds gs before hval0 hW _ _ hL _
  have hval : ∀ (j : Nat) t v, Tryz.f7.params[j]? = some t → args[j]? = some v → Value.okWide Tryz.prog W .any base t v := hval0
  have hW' := hW
  obtain ⟨p, q, hA0, hV, rfl, hfz, hnd⟩ := hW
  have hA : DataW.TrodAll enc Tryz.prog W 0 (fun _ => true) true Tryz.f7.params.toList args.toList ds p := hA0
  rw [Tryz.params7] at hA hval
  obtain ⟨v0, vs0, d0, ds0, p0, q0, hargs, rfl, rfl, h0, r0⟩ := trodAll_cons hA
  obtain ⟨v1, vs1, d1, ds1, p1, q1, rfl, rfl, rfl, h1, r1⟩ := trodAll_cons r0
  obtain ⟨rfl, rfl, rfl⟩ := trodAll_nil r1
  obtain rfl : args = #[v0, v1] := by cases args; simp_all
  have hVs : DataW.TrodVars enc Tryz.prog W (fun _ => true) ["loop.example/g00632/impl.vmShape"] gs q := hV
  obtain ⟨g0, rfl⟩ : ∃ g0, gs = [g0] := by
    have hlen := vars_len hVs
    match gs, hlen with
    | [g0], _ => exact ⟨g0, rfl⟩
  have k0 := h0
  have lt0 : ∀ x ∈ p0, x.block < W.heap.size := by obtain ⟨m, hm⟩ := k0; exact DataW.trod_lt m _ _ _ hm
  obtain ⟨a0, len0, cap0, z0, rfl, w0⟩ := open_laws_Program (hval 0 59 v0 rfl rfl) h0
  obtain ⟨a1, len1, cap1, rfl⟩ := okWide_slice Tryz.underlying27 (hval 1 27 v1 rfl rfl)
  have k1 := h1
  have lt1 : ∀ x ∈ p1, x.block < W.heap.size := by obtain ⟨m, hm⟩ := k1; exact DataW.trod_lt m _ _ _ hm
  obtain ⟨z1, w1⟩ : ∃ zs, IsRow .i64 W a1 len1 cap1 zs := by
    obtain ⟨fuel, hf⟩ := h1
    rcases open_ints Tryz.underlying27 Tryz.underlying3 (by kernel_rfl) hf with ⟨hcs, _⟩ | ⟨x, l, c, zs, hcs, _, hl, hm, hz, _, hcell, hwz⟩
    · simp [Value.cells] at hcs
      obtain ⟨rfl, rfl, rfl⟩ := hcs
      exact ⟨[], .inl ⟨rfl, rfl, rfl, rfl⟩⟩
    · simp [Value.cells] at hcs
      obtain ⟨rfl, rfl, rfl⟩ := hcs
      exact ⟨zs, .inr ⟨_, rfl, hl, hm, by simpa using hz, hcell, hwz⟩⟩
  clear hA0 hval0
  refine (fnExactRunSchedule_walk a0 len0 cap0 z0 a1 len1 cap1 z1 W w0 w1 (fnExactRunSchedule_laid hL)).mono fun e W' ⟨he, bel⟩ => ?_
  subst he
  have hv' := vars_below fnExactRunSchedule_laidOut bel (by kernel_rfl) hVs
  exact ⟨_, rfl, _, _, _, [], _, q, hW', trodAll_mk1 (shut_bool Tryz.underlying4 _), (trodAll_cons_mk (Below.trod fnExactRunSchedule_laidOut (by kernel_rfl) (of_decide_eq_true (by kernel_rfl)) k0 bel lt0) (trodAll_cons_mk (Below.trod fnExactRunSchedule_laidOut (by kernel_rfl) (of_decide_eq_true (by kernel_rfl)) k1 bel lt1) trodAll_mk0)), hv', bel.frame _, fun h => by cases h⟩

theorem fnExactRunSchedule_said : Rows.FnExactRunScheduleSaid :=
  OpenClaim.holds_of_wide 7 Tryz.f7 rfl rfl rfl rfl rfl rfl rfl ⟨rfl, rfl, rfl, rfl, rfl⟩ rfl rfl rfl rfl rfl (by kernel_rfl) Tryz.func7 (by kernel_rfl)
    (of_decide_eq_true (by kernel_rfl)) (by unfold Func.isWrapper; rw [if_neg (of_decide_eq_false (by kernel_rfl))]; exact ⟨rfl, rfl⟩)
    (fun os started H enc _ => fnExactRunSchedule_lifted os started H enc)

theorem fnExactRunSchedule_card : Rows.FnExactRunScheduleCardSaid :=
  Claim7.holds_tied_plain_at .later [] [.wider] true (true, "4f8f671941768db5d0bde4d7e1c58d01f2b7abe0cfa92fead592b11b632412dc") true
    fnExactRunSchedule_said (fun _ h => by cases h) (by kernel_rfl) (fun _ h => by cases h) fnExactRunSchedule_row_tie rfl ⟨rfl, rfl⟩ (by kernel_rfl) rfl
    (fun f fn hf hfn => by
      obtain rfl : f = 7 := Option.some.inj ((show Tryz.prog.funcNamed "loop.example/g00632/laws.FnExactRunSchedule" = some 7 by kernel_rfl).symm.trans hf) |>.symm
      obtain rfl : fn = Tryz.f7 := (Option.some.inj (Tryz.func7.symm.trans hfn)).symm
      exact ⟨by kernel_rfl, fun j t ht => by
        rw [Tryz.params7] at ht
        have hm : t ∈ [59, 27] := by simpa using Array.mem_of_getElem? ht
        have hall : ([59, 27].all fun u => !Tryz.prog.wantsStandIn u) = true := by kernel_rfl
        exact (show Tryz.prog.wantsStandIn t = false by simpa using List.all_eq_true.1 hall t hm)⟩)
    (by kernel_rfl)
#print axioms fnExactRunSchedule_card
end Go.Proofs.YtjgffnlmjmibgaaGreatDoor
