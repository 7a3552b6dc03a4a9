/-
  fnExactNormalOf: the law FnExactNormalOf holds of the program at every input (the listed package-level variables as the text lays them): the frame round our walk.
-/
import Derived.Test.YtmhngodbnoonhaaDoorM01
import Derived.Test.YtmhngodbnoonhaaDoorM02
import Derived.Test.YtmhngodbnoonhaaDoorM03
import Derived.Test.YtmhngodbnoonhaaDoorM04
import Derived.Test.YtmhngodbnoonhaaDoorM05
import Derived.Test.YtmhngodbnoonhaaDoorM06
import Derived.Test.YtmhngodbnoonhaaDoorM07
import Derived.Test.YtmhngodbnoonhaaDoorM08
import Derived.Test.YtmhngodbnoonhaaDoorM09
import Derived.Test.YtmhngodbnoonhaaDoorM10
import Derived.Test.YtmhngodbnoonhaaDoorM11
import Derived.Test.YtmhngodbnoonhaaDoorM12
import Derived.Test.YtmhngodbnoonhaaDoorM13
import Derived.Test.YtmhngodbnoonhaaDoorM14
import Derived.Test.YtmhngodbnoonhaaDoorM15
import Derived.Test.YtmhngodbnoonhaaDoorM16
import Derived.Test.YtmhngodbnoonhaaDoorM17
import Derived.Test.YtmhngodbnoonhaaDoorM18
import Derived.Test.YtmhngodbnoonhaaDoorM19
import Derived.Test.YtmhngodbnoonhaaDoorM20
import Derived.Test.YtmhngodbnoonhaaDoorM21
import Derived.Test.YtmhngodbnoonhaaDoorM22
import Derived.Test.YtmhngodbnoonhaaDoorM23
import Derived.Test.YtmhngodbnoonhaaDoorM24
import Derived.Test.YtmhngodbnoonhaaDoorM25
import Derived.Test.YtmhngodbnoonhaaDoorM26
import Derived.Test.YtmhngodbnoonhaaDoorM27
import Derived.Test.YtmhngodbnoonhaaDoorM28
import Derived.Test.YtmhngodbnoonhaaDoorM29
import Derived.Test.YtmhngodbnoonhaaDoorM30
import Derived.Test.YtmhngodbnoonhaaDoorM31
import Derived.Test.YtmhngodbnoonhaaDoorM32
import Derived.Test.YtmhngodbnoonhaaDoorM33
import Derived.Test.YtmhngodbnoonhaaDoorM34
import Derived.Test.YtmhngodbnoonhaaDoorM35
import Derived.Test.YtmhngodbnoonhaaDoorM36
import Derived.Test.YtmhngodbnoonhaaDoorM37
import Derived.Test.YtmhngodbnoonhaaDoorM38
import Derived.Test.YtmhngodbnoonhaaDoorM39
import Derived.Test.YtmhngodbnoonhaaDoorM40
import Derived.Test.YtmhngodbnoonhaaDoorM41
import Derived.Test.YtmhngodbnoonhaaDoorM42
import Derived.Test.YtmhngodbnoonhaaDoorM43
import Derived.Test.YtmhngodbnoonhaaDoorM44
import Derived.Test.YtmhngodbnoonhaaDoorM45
import Derived.Test.YtmhngodbnoonhaaDoorM46
import Derived.Test.YtmhngodbnoonhaaDoorM47
import Derived.Test.YtmhngodbnoonhaaDoorM50
import Derived.Test.YtmhngodbnoonhaaDoorM51
import Derived.Test.YtmhngodbnoonhaaDoorM52
import Derived.Test.YtmhngodbnoonhaaDoorRows
import Derived.Test.YtmhngodbnoonhaaDoorCards
import Derived.Test.YtmhngodbnoonhaaDoorTie
import Derived.WalkKit
import Derived.ProofKit
import Derived.OpenShut
import Derived.ShutString
import Derived.ChangeOld
import Derived.Below
import Derived.Stop.Joined
import Derived.SevenTiedAt
import Derived.LaidMore
namespace Go.Proofs.YtmhngodbnoonhaaDoor
open Go.ChangeShapes Go.WideShapes Go.ChangeAt Go.RowKit
open Go.ChangeMaps (open_string shut_string)
set_option linter.unusedVariables false

theorem fnExactNormalOf_own : ownKnob Tryd.prog.godebug = none := by kernel_rfl
theorem fnExactNormalOf_laidOut : laidOutB Tryd.prog = true := by kernel_rfl

set_option maxRecDepth 100000 in
theorem fnExactNormalOf_lifted (os : Os) (started : os.Started) (H : Type) (enc : TypeId × Value → H) :
    ReturnsInHanded {} Tryd.checked os 9 .any (fun w args => (Rows.fnExactNormalOfSpec.pre enc Tryd.prog Tryd.f9 [] false w args ∧ laidMetH Tryd.prog Rows.fnExactNormalOfRow.laid w) ∧ sizedMet enc Tryd.prog Tryd.f9 (OpenSpec.ofChange Rows.fnExactNormalOfSpec) false w args)
      (Rows.fnExactNormalOfSpec.post enc Tryd.prog Tryd.f9 false true false false) := by
  refine returnsInHanded_of_change_and (C := Tryd.checked) (X := fun w _ => laidMetH Tryd.prog Rows.fnExactNormalOfRow.laid w) (fun _ _ _ hh h => h.of_heap hh) fnExactNormalOf_own started (by kernel_rfl) Tryd.func9
    (ChangeSpec.witness_shaped (enc := enc) (C := Tryd.checked) (os := os) (X := fun w _ => laidMetH Tryd.prog Rows.fnExactNormalOfRow.laid w) false (World.doorLaid Tryd.prog 400 os) #[.agg #[.slice none 0 0], .slice none 0 0] 8 rfl (World.shaped_of_RefB (by kernel_rfl) (by kernel_rfl)) (by kernel_rfl) (by kernel_rfl) (by kernel_rfl) (fnExactNormalOf_door_met os _)) ?_
  intro W base args ds gs before hval0 hW _ _ hL _
  have hval : ∀ (j : Nat) t v, Tryd.f9.params[j]? = some t → args[j]? = some v → Value.okWide Tryd.prog W .any base t v := hval0
  have hW' := hW
  obtain ⟨p, q, hA0, hV, rfl, hfz, hnd⟩ := hW
  have hA : DataW.TrodAll enc Tryd.prog W 0 (fun _ => true) true Tryd.f9.params.toList args.toList ds p := hA0
  rw [Tryd.params9] at hA hval
  obtain ⟨v0, vs0, d0, ds0, p0, q0, hargs, rfl, rfl, h0, r0⟩ := trodAll_cons hA
  obtain ⟨v1, vs1, d1, ds1, p1, q1, rfl, rfl, rfl, h1, r1⟩ := trodAll_cons r0
  obtain ⟨rfl, rfl, rfl⟩ := trodAll_nil r1
  obtain rfl : args = #[v0, v1] := by cases args; simp_all
  have hVs : DataW.TrodVars enc Tryd.prog W (fun _ => true) ["loop.example/g00632/impl.vmShape"] gs q := hV
  obtain ⟨g0, rfl⟩ : ∃ g0, gs = [g0] := by
    have hlen := vars_len hVs
    match gs, hlen with
    | [g0], _ => exact ⟨g0, rfl⟩
  have k0 := h0
  have lt0 : ∀ x ∈ p0, x.block < W.heap.size := by obtain ⟨m, hm⟩ := k0; exact DataW.trod_lt m _ _ _ hm
  obtain ⟨a0, len0, cap0, z0, rfl, w0⟩ := open_laws_Program (hval 0 52 v0 rfl rfl) h0
  obtain ⟨a1, len1, cap1, rfl⟩ := okWide_slice Tryd.underlying27 (hval 1 27 v1 rfl rfl)
  have k1 := h1
  have lt1 : ∀ x ∈ p1, x.block < W.heap.size := by obtain ⟨m, hm⟩ := k1; exact DataW.trod_lt m _ _ _ hm
  obtain ⟨z1, w1⟩ : ∃ zs, IsRow .i64 W a1 len1 cap1 zs := by
    obtain ⟨fuel, hf⟩ := h1
    rcases open_ints Tryd.underlying27 Tryd.underlying3 (by kernel_rfl) hf with ⟨hcs, _⟩ | ⟨x, l, c, zs, hcs, _, hl, hm, hz, _, hcell, hwz⟩
    · simp [Value.cells] at hcs
      obtain ⟨rfl, rfl, rfl⟩ := hcs
      exact ⟨[], .inl ⟨rfl, rfl, rfl, rfl⟩⟩
    · simp [Value.cells] at hcs
      obtain ⟨rfl, rfl, rfl⟩ := hcs
      exact ⟨zs, .inr ⟨_, rfl, hl, hm, by simpa using hz, hcell, hwz⟩⟩
  clear hA0 hval0
  refine (fnExactNormalOf_walk a0 len0 cap0 z0 a1 len1 cap1 z1 W w0 w1 (fnExactNormalOf_laid hL)).mono fun e W' ⟨he, bel⟩ => ?_
  subst he
  have hv' := vars_below fnExactNormalOf_laidOut bel (by kernel_rfl) hVs
  exact ⟨_, rfl, _, _, _, [], _, q, hW', trodAll_mk1 (shut_bool Tryd.underlying4 _), (trodAll_cons_mk (Below.trod fnExactNormalOf_laidOut (by kernel_rfl) (of_decide_eq_true (by kernel_rfl)) k0 bel lt0) (trodAll_cons_mk (Below.trod fnExactNormalOf_laidOut (by kernel_rfl) (of_decide_eq_true (by kernel_rfl)) k1 bel lt1) trodAll_mk0)), hv', bel.frame _, fun h => by cases h⟩

theorem fnExactNormalOf_said : Rows.FnExactNormalOfSaid :=
  OpenClaim.holds_of_wide 9 Tryd.f9 rfl rfl rfl rfl rfl rfl rfl ⟨rfl, rfl, rfl, rfl, rfl⟩ rfl rfl rfl rfl rfl (by kernel_rfl) Tryd.func9 (by kernel_rfl)
    (of_decide_eq_true (by kernel_rfl)) (by unfold Func.isWrapper; rw [if_neg (of_decide_eq_false (by kernel_rfl))]; exact ⟨rfl, rfl⟩)
    (fun os started H enc _ => fnExactNormalOf_lifted os started H enc)

theorem fnExactNormalOf_card : Rows.FnExactNormalOfCardSaid :=
  Claim7.holds_tied_plain_at .later [] [.wider] true (true, "a0fbc7f7b432d0d0348eea11d9fd88cced2cda95cd9bb03ea7163b7dee81b0be") true
    fnExactNormalOf_said (fun _ h => by cases h) (by kernel_rfl) (fun _ h => by cases h) fnExactNormalOf_row_tie rfl ⟨rfl, rfl⟩ (by kernel_rfl) rfl
    (fun f fn hf hfn => by
      obtain rfl : f = 9 := Option.some.inj ((show Tryd.prog.funcNamed "loop.example/g00632/laws.FnExactNormalOf" = some 9 by kernel_rfl).symm.trans hf) |>.symm
      obtain rfl : fn = Tryd.f9 := (Option.some.inj (Tryd.func9.symm.trans hfn)).symm
      exact ⟨by kernel_rfl, fun j t ht => by
        rw [Tryd.params9] at ht
        have hm : t ∈ [52, 27] := by simpa using Array.mem_of_getElem? ht
        have hall : ([52, 27].all fun u => !Tryd.prog.wantsStandIn u) = true := by kernel_rfl
        exact (show Tryd.prog.wantsStandIn t = false by simpa using List.all_eq_true.1 hall t hm)⟩)
    (by kernel_rfl)
#print axioms fnExactNormalOf_card
end Go.Proofs.YtmhngodbnoonhaaDoor
