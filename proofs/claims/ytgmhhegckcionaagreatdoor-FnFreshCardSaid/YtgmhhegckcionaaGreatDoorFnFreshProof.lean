/-
  fnFresh: the law FnFresh holds of the program at every input (the listed package-level variables as the text lays them): the frame round our walk.
-/
import Derived.Test.YtgmhhegckcionaaGreatDoorF01
import Derived.Test.YtgmhhegckcionaaGreatDoorF02
import Derived.Test.YtgmhhegckcionaaGreatDoorF03
import Derived.Test.YtgmhhegckcionaaGreatDoorF04
import Derived.Test.YtgmhhegckcionaaGreatDoorF05
import Derived.Test.YtgmhhegckcionaaGreatDoorF06
import Derived.Test.YtgmhhegckcionaaGreatDoorF07
import Derived.Test.YtgmhhegckcionaaGreatDoorF08
import Derived.Test.YtgmhhegckcionaaGreatDoorF09
import Derived.Test.YtgmhhegckcionaaGreatDoorF10
import Derived.Test.YtgmhhegckcionaaGreatDoorF11
import Derived.Test.YtgmhhegckcionaaGreatDoorF12
import Derived.Test.YtgmhhegckcionaaGreatDoorF13
import Derived.Test.YtgmhhegckcionaaGreatDoorF14
import Derived.Test.YtgmhhegckcionaaGreatDoorF15
import Derived.Test.YtgmhhegckcionaaGreatDoorF16
import Derived.Test.YtgmhhegckcionaaGreatDoorF17
import Derived.Test.YtgmhhegckcionaaGreatDoorF18
import Derived.Test.YtgmhhegckcionaaGreatDoorF19
import Derived.Test.YtgmhhegckcionaaGreatDoorF20
import Derived.Test.YtgmhhegckcionaaGreatDoorF21
import Derived.Test.YtgmhhegckcionaaGreatDoorF22
import Derived.Test.YtgmhhegckcionaaGreatDoorF23
import Derived.Test.YtgmhhegckcionaaGreatDoorF24
import Derived.Test.YtgmhhegckcionaaGreatDoorF25
import Derived.Test.YtgmhhegckcionaaGreatDoorF26
import Derived.Test.YtgmhhegckcionaaGreatDoorF27
import Derived.Test.YtgmhhegckcionaaGreatDoorF28
import Derived.Test.YtgmhhegckcionaaGreatDoorF29
import Derived.Test.YtgmhhegckcionaaGreatDoorF30
import Derived.Test.YtgmhhegckcionaaGreatDoorF31
import Derived.Test.YtgmhhegckcionaaGreatDoorF32
import Derived.Test.YtgmhhegckcionaaGreatDoorF33
import Derived.Test.YtgmhhegckcionaaGreatDoorF34
import Derived.Test.YtgmhhegckcionaaGreatDoorF35
import Derived.Test.YtgmhhegckcionaaGreatDoorF36
import Derived.Test.YtgmhhegckcionaaGreatDoorF37
import Derived.Test.YtgmhhegckcionaaGreatDoorF38
import Derived.Test.YtgmhhegckcionaaGreatDoorF39
import Derived.Test.YtgmhhegckcionaaGreatDoorF40
import Derived.Test.YtgmhhegckcionaaGreatDoorF41
import Derived.Test.YtgmhhegckcionaaGreatDoorF42
import Derived.Test.YtgmhhegckcionaaGreatDoorF43
import Derived.Test.YtgmhhegckcionaaGreatDoorF44
import Derived.Test.YtgmhhegckcionaaGreatDoorF45
import Derived.Test.YtgmhhegckcionaaGreatDoorF46
import Derived.Test.YtgmhhegckcionaaGreatDoorF47
import Derived.Test.YtgmhhegckcionaaGreatDoorF48
import Derived.Test.YtgmhhegckcionaaGreatDoorF49
import Derived.Test.YtgmhhegckcionaaGreatDoorRows
import Derived.Test.YtgmhhegckcionaaGreatDoorCards
import Derived.Test.YtgmhhegckcionaaGreatDoorTie
import Derived.WalkKit
import Derived.ProofKit
import Derived.OpenShut
import Derived.ShutString
import Derived.ChangeOld
import Derived.Below
import Derived.Stop.Joined
import Derived.SevenTiedAt
import Derived.LaidMore
namespace Go.Proofs.YtgmhhegckcionaaGreatDoor
open Go.ChangeShapes Go.WideShapes Go.ChangeAt Go.RowKit
open Go.ChangeMaps (open_string shut_string)
set_option linter.unusedVariables false

theorem fnFresh_own : ownKnob Tryz.prog.godebug = none := by kernel_rfl
theorem fnFresh_laidOut : laidOutB Tryz.prog = true := by kernel_rfl

set_option maxRecDepth 100000 in
theorem fnFresh_lifted (os : Os) (started : os.Started) (H : Type) (enc : TypeId × Value → H) :
    ReturnsInHanded {} Tryz.checked os 4 .any (fun w args => (Rows.fnFreshSpec.pre enc Tryz.prog Tryz.f4 [] false w args ∧ laidMetH Tryz.prog Rows.fnFreshRow.laid w) ∧ sizedMet enc Tryz.prog Tryz.f4 (OpenSpec.ofChange Rows.fnFreshSpec) false w args)
      (Rows.fnFreshSpec.post enc Tryz.prog Tryz.f4 false true false false) := by
  refine returnsInHanded_of_change_and (C := Tryz.checked) (X := fun w _ => laidMetH Tryz.prog Rows.fnFreshRow.laid w) (fun _ _ _ hh h => h.of_heap hh) fnFresh_own started (by kernel_rfl) Tryz.func4
    (ChangeSpec.witness_shaped (enc := enc) (C := Tryz.checked) (os := os) (X := fun w _ => laidMetH Tryz.prog Rows.fnFreshRow.laid w) false (World.doorLaid Tryz.prog 400 os) #[.slice none 0 0, .slice none 0 0] 8 rfl (World.shaped_of_RefB (by kernel_rfl) (by kernel_rfl)) (by kernel_rfl) (by kernel_rfl) (by kernel_rfl) (fnFresh_door_met os _)) ?_
  intro W base args ds gs before hval0 hW _ _ hL _
  have hval : ∀ (j : Nat) t v, Tryz.f4.params[j]? = some t → args[j]? = some v → Value.okWide Tryz.prog W .any base t v := hval0
  have hW' := hW
  obtain ⟨p, q, hA0, hV, rfl, hfz, hnd⟩ := hW
  have hA : DataW.TrodAll enc Tryz.prog W 0 (fun _ => true) true Tryz.f4.params.toList args.toList ds p := hA0
  rw [Tryz.params4] at hA hval
  obtain ⟨v0, vs0, d0, ds0, p0, q0, hargs, rfl, rfl, h0, r0⟩ := trodAll_cons hA
  obtain ⟨v1, vs1, d1, ds1, p1, q1, rfl, rfl, rfl, h1, r1⟩ := trodAll_cons r0
  obtain ⟨rfl, rfl, rfl⟩ := trodAll_nil r1
  obtain rfl : args = #[v0, v1] := by cases args; simp_all
  have hVs : DataW.TrodVars enc Tryz.prog W (fun _ => true) ["loop.example/g00632/impl.vmShape"] gs q := hV
  obtain ⟨g0, rfl⟩ : ∃ g0, gs = [g0] := by
    have hlen := vars_len hVs
    match gs, hlen with
    | [g0], _ => exact ⟨g0, rfl⟩
  obtain ⟨a0, len0, cap0, rfl⟩ := okWide_slice Tryz.underlying22 (hval 0 22 v0 rfl rfl)
  have k0 := h0
  have lt0 : ∀ x ∈ p0, x.block < W.heap.size := by obtain ⟨m, hm⟩ := k0; exact DataW.trod_lt m _ _ _ hm
  obtain ⟨z0, w0⟩ : ∃ zs, IsRow .u8 W a0 len0 cap0 zs := by
    obtain ⟨fuel, hf⟩ := h0
    rcases open_ints Tryz.underlying22 Tryz.underlying5 (by kernel_rfl) hf with ⟨hcs, _⟩ | ⟨x, l, c, zs, hcs, _, hl, hm, hz, _, hcell, hwz⟩
    · simp [Value.cells] at hcs
      obtain ⟨rfl, rfl, rfl⟩ := hcs
      exact ⟨[], .inl ⟨rfl, rfl, rfl, rfl⟩⟩
    · simp [Value.cells] at hcs
      obtain ⟨rfl, rfl, rfl⟩ := hcs
      exact ⟨zs, .inr ⟨_, rfl, hl, hm, by simpa using hz, hcell, hwz⟩⟩
  obtain ⟨a1, len1, cap1, rfl⟩ := okWide_slice Tryz.underlying22 (hval 1 22 v1 rfl rfl)
  have k1 := h1
  have lt1 : ∀ x ∈ p1, x.block < W.heap.size := by obtain ⟨m, hm⟩ := k1; exact DataW.trod_lt m _ _ _ hm
  obtain ⟨z1, w1⟩ : ∃ zs, IsRow .u8 W a1 len1 cap1 zs := by
    obtain ⟨fuel, hf⟩ := h1
    rcases open_ints Tryz.underlying22 Tryz.underlying5 (by kernel_rfl) hf with ⟨hcs, _⟩ | ⟨x, l, c, zs, hcs, _, hl, hm, hz, _, hcell, hwz⟩
    · simp [Value.cells] at hcs
      obtain ⟨rfl, rfl, rfl⟩ := hcs
      exact ⟨[], .inl ⟨rfl, rfl, rfl, rfl⟩⟩
    · simp [Value.cells] at hcs
      obtain ⟨rfl, rfl, rfl⟩ := hcs
      exact ⟨zs, .inr ⟨_, rfl, hl, hm, by simpa using hz, hcell, hwz⟩⟩
  clear hA0 hval0
  refine (fnFresh_walk a0 len0 cap0 z0 a1 len1 cap1 z1 W w0 w1 (fnFresh_laid hL)).mono fun e W' ⟨he, bel⟩ => ?_
  subst he
  have hv' := vars_below fnFresh_laidOut bel (by kernel_rfl) hVs
  exact ⟨_, rfl, _, _, _, [], _, q, hW', trodAll_mk1 (shut_bool Tryz.underlying4 _), (trodAll_cons_mk (Below.trod fnFresh_laidOut (by kernel_rfl) (of_decide_eq_true (by kernel_rfl)) k0 bel lt0) (trodAll_cons_mk (Below.trod fnFresh_laidOut (by kernel_rfl) (of_decide_eq_true (by kernel_rfl)) k1 bel lt1) trodAll_mk0)), hv', bel.frame _, fun h => by cases h⟩

theorem fnFresh_said : Rows.FnFreshSaid :=
  OpenClaim.holds_of_wide 4 Tryz.f4 rfl rfl rfl rfl rfl rfl rfl ⟨rfl, rfl, rfl, rfl, rfl⟩ rfl rfl rfl rfl rfl (by kernel_rfl) Tryz.func4 (by kernel_rfl)
    (of_decide_eq_true (by kernel_rfl)) (by unfold Func.isWrapper; rw [if_neg (of_decide_eq_false (by kernel_rfl))]; exact ⟨rfl, rfl⟩)
    (fun os started H enc _ => fnFresh_lifted os started H enc)

theorem fnFresh_card : Rows.FnFreshCardSaid :=
  Claim7.holds_tied_plain_at .later [] [.wider] true (true, "9a141e29b04e867f1f42586d8c7fe8e8206f708386ef0d43811fc1b90a9708b5") true
    fnFresh_said (fun _ h => by cases h) (by kernel_rfl) (fun _ h => by cases h) fnFresh_row_tie rfl ⟨rfl, rfl⟩ (by kernel_rfl) rfl
    (fun f fn hf hfn => by
      obtain rfl : f = 4 := Option.some.inj ((show Tryz.prog.funcNamed "loop.example/g00632/laws.FnFresh" = some 4 by kernel_rfl).symm.trans hf) |>.symm
      obtain rfl : fn = Tryz.f4 := (Option.some.inj (Tryz.func4.symm.trans hfn)).symm
      exact ⟨by kernel_rfl, fun j t ht => by
        rw [Tryz.params4] at ht
        have hm : t ∈ [22, 22] := by simpa using Array.mem_of_getElem? ht
        have hall : ([22, 22].all fun u => !Tryz.prog.wantsStandIn u) = true := by kernel_rfl
        exact (show Tryz.prog.wantsStandIn t = false by simpa using List.all_eq_true.1 hall t hm)⟩)
    (by kernel_rfl)
#print axioms fnFresh_card
end Go.Proofs.YtgmhhegckcionaaGreatDoor
