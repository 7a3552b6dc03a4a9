/-
  fnExactIsWitness: the law FnExactIsWitness holds of the program at every input (the listed package-level variables as the text lays them): the frame round our walk.
-/
import Derived.Test.YtjgffnlmjmibgaaDoorK01
import Derived.Test.YtjgffnlmjmibgaaDoorK02
import Derived.Test.YtjgffnlmjmibgaaDoorK03
import Derived.Test.YtjgffnlmjmibgaaDoorK04
import Derived.Test.YtjgffnlmjmibgaaDoorK05
import Derived.Test.YtjgffnlmjmibgaaDoorK06
import Derived.Test.YtjgffnlmjmibgaaDoorK07
import Derived.Test.YtjgffnlmjmibgaaDoorK08
import Derived.Test.YtjgffnlmjmibgaaDoorK09
import Derived.Test.YtjgffnlmjmibgaaDoorK10
import Derived.Test.YtjgffnlmjmibgaaDoorK11
import Derived.Test.YtjgffnlmjmibgaaDoorK12
import Derived.Test.YtjgffnlmjmibgaaDoorK13
import Derived.Test.YtjgffnlmjmibgaaDoorK14
import Derived.Test.YtjgffnlmjmibgaaDoorK15
import Derived.Test.YtjgffnlmjmibgaaDoorK16
import Derived.Test.YtjgffnlmjmibgaaDoorK17
import Derived.Test.YtjgffnlmjmibgaaDoorK18
import Derived.Test.YtjgffnlmjmibgaaDoorK19
import Derived.Test.YtjgffnlmjmibgaaDoorK20
import Derived.Test.YtjgffnlmjmibgaaDoorK21
import Derived.Test.YtjgffnlmjmibgaaDoorK22
import Derived.Test.YtjgffnlmjmibgaaDoorK23
import Derived.Test.YtjgffnlmjmibgaaDoorK24
import Derived.Test.YtjgffnlmjmibgaaDoorK25
import Derived.Test.YtjgffnlmjmibgaaDoorK26
import Derived.Test.YtjgffnlmjmibgaaDoorK27
import Derived.Test.YtjgffnlmjmibgaaDoorK28
import Derived.Test.YtjgffnlmjmibgaaDoorK29
import Derived.Test.YtjgffnlmjmibgaaDoorK30
import Derived.Test.YtjgffnlmjmibgaaDoorK31
import Derived.Test.YtjgffnlmjmibgaaDoorK32
import Derived.Test.YtjgffnlmjmibgaaDoorK33
import Derived.Test.YtjgffnlmjmibgaaDoorK34
import Derived.Test.YtjgffnlmjmibgaaDoorK35
import Derived.Test.YtjgffnlmjmibgaaDoorK36
import Derived.Test.YtjgffnlmjmibgaaDoorK37
import Derived.Test.YtjgffnlmjmibgaaDoorK38
import Derived.Test.YtjgffnlmjmibgaaDoorK39
import Derived.Test.YtjgffnlmjmibgaaDoorK40
import Derived.Test.YtjgffnlmjmibgaaDoorK41
import Derived.Test.YtjgffnlmjmibgaaDoorK42
import Derived.Test.YtjgffnlmjmibgaaDoorK43
import Derived.Test.YtjgffnlmjmibgaaDoorK44
import Derived.Test.YtjgffnlmjmibgaaDoorK45
import Derived.Test.YtjgffnlmjmibgaaDoorK46
import Derived.Test.YtjgffnlmjmibgaaDoorK47
import Derived.Test.YtjgffnlmjmibgaaDoorK48
import Derived.Test.YtjgffnlmjmibgaaDoorK49
import Derived.Test.YtjgffnlmjmibgaaDoorRows
import Derived.Test.YtjgffnlmjmibgaaDoorCards
import Derived.Test.YtjgffnlmjmibgaaDoorTie
import Derived.WalkKit
import Derived.ProofKit
import Derived.OpenShut
import Derived.ShutString
import Derived.ChangeOld
import Derived.Below
import Derived.Stop.Joined
import Derived.SevenTiedAt
import Derived.LaidMore
namespace Go.Proofs.YtjgffnlmjmibgaaDoor
open Go.ChangeShapes Go.WideShapes Go.ChangeAt Go.RowKit
open Go.ChangeMaps (open_string shut_string)
set_option linter.unusedVariables false

theorem fnExactIsWitness_own : ownKnob Tryd.prog.godebug = none := by kernel_rfl
theorem fnExactIsWitness_laidOut : laidOutB Tryd.prog = true := by kernel_rfl

set_option maxRecDepth 100000 in
theorem fnExactIsWitness_lifted (os : Os) (started : os.Started) (H : Type) (enc : TypeId × Value → H) :
    ReturnsInHanded {} Tryd.checked os 4 .any (fun w args => (Rows.fnExactIsWitnessSpec.pre enc Tryd.prog Tryd.f4 [] false w args ∧ laidMetH Tryd.prog Rows.fnExactIsWitnessRow.laid w) ∧ sizedMet enc Tryd.prog Tryd.f4 (OpenSpec.ofChange Rows.fnExactIsWitnessSpec) false w args)
      (Rows.fnExactIsWitnessSpec.post enc Tryd.prog Tryd.f4 false true false false) := by
  refine returnsInHanded_of_change_and (C := Tryd.checked) (X := fun w _ => laidMetH Tryd.prog Rows.fnExactIsWitnessRow.laid w) (fun _ _ _ hh h => h.of_heap hh) fnExactIsWitness_own started (by kernel_rfl) Tryd.func4
    (ChangeSpec.witness_shaped (enc := enc) (C := Tryd.checked) (os := os) (X := fun w _ => laidMetH Tryd.prog Rows.fnExactIsWitnessRow.laid w) false (World.doorLaid Tryd.prog 400 os) #[.agg #[.slice none 0 0], .slice none 0 0, .agg #[.int .i64 0, .int .i64 0, .int .i64 0]] 8 rfl (World.shaped_of_RefB (by kernel_rfl) (by kernel_rfl)) (by kernel_rfl) (by kernel_rfl) (by kernel_rfl) (fnExactIsWitness_door_met os _)) ?_
  intro W base args ds gs before hval0 hW _ _ hL _
  have hval : ∀ (j : Nat) t v, Tryd.f4.params[j]? = some t → args[j]? = some v → Value.okWide Tryd.prog W .any base t v := hval0
  have hW' := hW
  obtain ⟨p, q, hA0, hV, rfl, hfz, hnd⟩ := hW
  have hA : DataW.TrodAll enc Tryd.prog W 0 (fun _ => true) true Tryd.f4.params.toList args.toList ds p := hA0
  rw [Tryd.params4] at hA hval
  obtain ⟨v0, vs0, d0, ds0, p0, q0, hargs, rfl, rfl, h0, r0⟩ := trodAll_cons hA
  obtain ⟨v1, vs1, d1, ds1, p1, q1, rfl, rfl, rfl, h1, r1⟩ := trodAll_cons r0
  obtain ⟨v2, vs2, d2, ds2, p2, q2, rfl, rfl, rfl, h2, r2⟩ := trodAll_cons r1
  obtain ⟨rfl, rfl, rfl⟩ := trodAll_nil r2
  obtain rfl : args = #[v0, v1, v2] := by cases args; simp_all
  have hVs : DataW.TrodVars enc Tryd.prog W (fun _ => true) ["loop.example/g00632/impl.vmShape"] gs q := hV
  obtain ⟨g0, rfl⟩ : ∃ g0, gs = [g0] := by
    have hlen := vars_len hVs
    match gs, hlen with
    | [g0], _ => exact ⟨g0, rfl⟩
  have k0 := h0
  have lt0 : ∀ x ∈ p0, x.block < W.heap.size := by obtain ⟨m, hm⟩ := k0; exact DataW.trod_lt m _ _ _ hm
  obtain ⟨a0, len0, cap0, z0, rfl, w0⟩ := open_laws_Program (hval 0 46 v0 rfl rfl) h0
  obtain ⟨a1, len1, cap1, rfl⟩ := okWide_slice Tryd.underlying27 (hval 1 27 v1 rfl rfl)
  have k1 := h1
  have lt1 : ∀ x ∈ p1, x.block < W.heap.size := by obtain ⟨m, hm⟩ := k1; exact DataW.trod_lt m _ _ _ hm
  obtain ⟨z1, w1⟩ : ∃ zs, IsRow .i64 W a1 len1 cap1 zs := by
    obtain ⟨fuel, hf⟩ := h1
    rcases open_ints Tryd.underlying27 Tryd.underlying3 (by kernel_rfl) hf with ⟨hcs, _⟩ | ⟨x, l, c, zs, hcs, _, hl, hm, hz, _, hcell, hwz⟩
    · simp [Value.cells] at hcs
      obtain ⟨rfl, rfl, rfl⟩ := hcs
      exact ⟨[], .inl ⟨rfl, rfl, rfl, rfl⟩⟩
    · simp [Value.cells] at hcs
      obtain ⟨rfl, rfl, rfl⟩ := hcs
      exact ⟨zs, .inr ⟨_, rfl, hl, hm, by simpa using hz, hcell, hwz⟩⟩
  have k2 := h2
  have lt2 : ∀ x ∈ p2, x.block < W.heap.size := by obtain ⟨m, hm⟩ := k2; exact DataW.trod_lt m _ _ _ hm
  obtain ⟨y2, rfl, w2⟩ := open_laws_Bug (hval 2 47 v2 rfl rfl) h2
  clear hA0 hval0
  refine (fnExactIsWitness_walk a0 len0 cap0 z0 a1 len1 cap1 z1 y2 W w0 w1 w2 (fnExactIsWitness_laid hL)).mono fun e W' ⟨he, bel⟩ => ?_
  subst he
  have hv' := vars_below fnExactIsWitness_laidOut bel (by kernel_rfl) hVs
  exact ⟨_, rfl, _, _, _, [], _, q, hW', trodAll_mk1 (shut_bool Tryd.underlying4 _), (trodAll_cons_mk (Below.trod fnExactIsWitness_laidOut (by kernel_rfl) (of_decide_eq_true (by kernel_rfl)) k0 bel lt0) (trodAll_cons_mk (Below.trod fnExactIsWitness_laidOut (by kernel_rfl) (of_decide_eq_true (by kernel_rfl)) k1 bel lt1) (trodAll_cons_mk (Below.trod fnExactIsWitness_laidOut (by kernel_rfl) (of_decide_eq_true (by kernel_rfl)) k2 bel lt2) trodAll_mk0))), hv', bel.frame _, fun h => by cases h⟩

theorem fnExactIsWitness_said : Rows.FnExactIsWitnessSaid :=
  OpenClaim.holds_of_wide 4 Tryd.f4 rfl rfl rfl rfl rfl rfl rfl ⟨rfl, rfl, rfl, rfl, rfl⟩ rfl rfl rfl rfl rfl (by kernel_rfl) Tryd.func4 (by kernel_rfl)
    (of_decide_eq_true (by kernel_rfl)) (by unfold Func.isWrapper; rw [if_neg (of_decide_eq_false (by kernel_rfl))]; exact ⟨rfl, rfl⟩)
    (fun os started H enc _ => fnExactIsWitness_lifted os started H enc)

theorem fnExactIsWitness_card : Rows.FnExactIsWitnessCardSaid :=
  Claim7.holds_tied_plain_at .later [] [.wider] true (true, "c1b4f79f2de76f286816b8a4872f72f01670c2fc11d6e6cf5ce5f0adb49f5191") true
    fnExactIsWitness_said (fun _ h => by cases h) (by kernel_rfl) (fun _ h => by cases h) fnExactIsWitness_row_tie rfl ⟨rfl, rfl⟩ (by kernel_rfl) rfl
    (fun f fn hf hfn => by
      obtain rfl : f = 4 := Option.some.inj ((show Tryd.prog.funcNamed "loop.example/g00632/laws.FnExactIsWitness" = some 4 by kernel_rfl).symm.trans hf) |>.symm
      obtain rfl : fn = Tryd.f4 := (Option.some.inj (Tryd.func4.symm.trans hfn)).symm
      exact ⟨by kernel_rfl, fun j t ht => by
        rw [Tryd.params4] at ht
        have hm : t ∈ [46, 27, 47] := by simpa using Array.mem_of_getElem? ht
        have hall : ([46, 27, 47].all fun u => !Tryd.prog.wantsStandIn u) = true := by kernel_rfl
        exact (show Tryd.prog.wantsStandIn t = false by simpa using List.all_eq_true.1 hall t hm)⟩)
    (by kernel_rfl)
#print axioms fnExactIsWitness_card
end Go.Proofs.YtjgffnlmjmibgaaDoor
