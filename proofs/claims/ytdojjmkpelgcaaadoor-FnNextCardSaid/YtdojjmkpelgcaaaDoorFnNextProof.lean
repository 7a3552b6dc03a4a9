/-
  fnNext: the law FnNext holds of the program at every input (the listed package-level variables as the text lays them): the frame round our walk.
-/
import Derived.Test.YtdojjmkpelgcaaaDoorX01
import Derived.Test.YtdojjmkpelgcaaaDoorX02
import Derived.Test.YtdojjmkpelgcaaaDoorX03
import Derived.Test.YtdojjmkpelgcaaaDoorX04
import Derived.Test.YtdojjmkpelgcaaaDoorX05
import Derived.Test.YtdojjmkpelgcaaaDoorX06
import Derived.Test.YtdojjmkpelgcaaaDoorX07
import Derived.Test.YtdojjmkpelgcaaaDoorX08
import Derived.Test.YtdojjmkpelgcaaaDoorX09
import Derived.Test.YtdojjmkpelgcaaaDoorX10
import Derived.Test.YtdojjmkpelgcaaaDoorX11
import Derived.Test.YtdojjmkpelgcaaaDoorX12
import Derived.Test.YtdojjmkpelgcaaaDoorX13
import Derived.Test.YtdojjmkpelgcaaaDoorX14
import Derived.Test.YtdojjmkpelgcaaaDoorX15
import Derived.Test.YtdojjmkpelgcaaaDoorX16
import Derived.Test.YtdojjmkpelgcaaaDoorX17
import Derived.Test.YtdojjmkpelgcaaaDoorX18
import Derived.Test.YtdojjmkpelgcaaaDoorX19
import Derived.Test.YtdojjmkpelgcaaaDoorX20
import Derived.Test.YtdojjmkpelgcaaaDoorX21
import Derived.Test.YtdojjmkpelgcaaaDoorX22
import Derived.Test.YtdojjmkpelgcaaaDoorX23
import Derived.Test.YtdojjmkpelgcaaaDoorX24
import Derived.Test.YtdojjmkpelgcaaaDoorX25
import Derived.Test.YtdojjmkpelgcaaaDoorX26
import Derived.Test.YtdojjmkpelgcaaaDoorX27
import Derived.Test.YtdojjmkpelgcaaaDoorX28
import Derived.Test.YtdojjmkpelgcaaaDoorX29
import Derived.Test.YtdojjmkpelgcaaaDoorX30
import Derived.Test.YtdojjmkpelgcaaaDoorX31
import Derived.Test.YtdojjmkpelgcaaaDoorX32
import Derived.Test.YtdojjmkpelgcaaaDoorX33
import Derived.Test.YtdojjmkpelgcaaaDoorX34
import Derived.Test.YtdojjmkpelgcaaaDoorX35
import Derived.Test.YtdojjmkpelgcaaaDoorX36
import Derived.Test.YtdojjmkpelgcaaaDoorX37
import Derived.Test.YtdojjmkpelgcaaaDoorX38
import Derived.Test.YtdojjmkpelgcaaaDoorX39
import Derived.Test.YtdojjmkpelgcaaaDoorX40
import Derived.Test.YtdojjmkpelgcaaaDoorX41
import Derived.Test.YtdojjmkpelgcaaaDoorX42
import Derived.Test.YtdojjmkpelgcaaaDoorX43
import Derived.Test.YtdojjmkpelgcaaaDoorX44
import Derived.Test.YtdojjmkpelgcaaaDoorX45
import Derived.Test.YtdojjmkpelgcaaaDoorX46
import Derived.Test.YtdojjmkpelgcaaaDoorX47
import Derived.Test.YtdojjmkpelgcaaaDoorX48
import Derived.Test.YtdojjmkpelgcaaaDoorX49
import Derived.Test.YtdojjmkpelgcaaaDoorRows
import Derived.Test.YtdojjmkpelgcaaaDoorCards
import Derived.Test.YtdojjmkpelgcaaaDoorTie
import Derived.WalkKit
import Derived.ProofKit
import Derived.OpenShut
import Derived.ShutString
import Derived.ChangeOld
import Derived.Below
import Derived.Stop.Joined
import Derived.SevenTiedAt
import Derived.LaidMore
namespace Go.Proofs.YtdojjmkpelgcaaaDoor
open Go.ChangeShapes Go.WideShapes Go.ChangeAt Go.RowKit
open Go.ChangeMaps (open_string shut_string)
set_option linter.unusedVariables false

theorem fnNext_own : ownKnob Tryd.prog.godebug = none := by kernel_rfl
theorem fnNext_laidOut : laidOutB Tryd.prog = true := by kernel_rfl

set_option maxRecDepth 100000 in
theorem fnNext_lifted (os : Os) (started : os.Started) (H : Type) (enc : TypeId × Value → H) :
    ReturnsInHanded {} Tryd.checked os 3 .any (fun w args => (Rows.fnNextSpec.pre enc Tryd.prog Tryd.f3 [] false w args ∧ laidMetH Tryd.prog Rows.fnNextRow.laid w) ∧ sizedMet enc Tryd.prog Tryd.f3 (OpenSpec.ofChange Rows.fnNextSpec) false w args)
      (Rows.fnNextSpec.post enc Tryd.prog Tryd.f3 false true false false) := by
  refine returnsInHanded_of_change_and (C := Tryd.checked) (X := fun w _ => laidMetH Tryd.prog Rows.fnNextRow.laid w) (fun _ _ _ hh h => h.of_heap hh) fnNext_own started (by kernel_rfl) Tryd.func3
    (ChangeSpec.witness_shaped (enc := enc) (C := Tryd.checked) (os := os) (X := fun w _ => laidMetH Tryd.prog Rows.fnNextRow.laid w) false (World.doorLaid Tryd.prog 400 os) #[.slice none 0 0, .slice none 0 0] 8 rfl (World.shaped_of_RefB (by kernel_rfl) (by kernel_rfl)) (by kernel_rfl) (by kernel_rfl) (by kernel_rfl) (fnNext_door_met os _)) ?_
  intro W base args ds gs before hval0 hW _ _ hL _
  have hval : ∀ (j : Nat) t v, Tryd.f3.params[j]? = some t → args[j]? = some v → Value.okWide Tryd.prog W .any base t v := hval0
  have hW' := hW
  obtain ⟨p, q, hA0, hV, rfl, hfz, hnd⟩ := hW
  have hA : DataW.TrodAll enc Tryd.prog W 0 (fun _ => true) true Tryd.f3.params.toList args.toList ds p := hA0
  rw [Tryd.params3] at hA hval
  obtain ⟨v0, vs0, d0, ds0, p0, q0, hargs, rfl, rfl, h0, r0⟩ := trodAll_cons hA
  obtain ⟨v1, vs1, d1, ds1, p1, q1, rfl, rfl, rfl, h1, r1⟩ := trodAll_cons r0
  obtain ⟨rfl, rfl, rfl⟩ := trodAll_nil r1
  obtain rfl : args = #[v0, v1] := by cases args; simp_all
  have hVs : DataW.TrodVars enc Tryd.prog W (fun _ => true) ["loop.example/g00632/impl.vmShape"] gs q := hV
  obtain ⟨g0, rfl⟩ : ∃ g0, gs = [g0] := by
    have hlen := vars_len hVs
    match gs, hlen with
    | [g0], _ => exact ⟨g0, rfl⟩
  obtain ⟨a0, len0, cap0, rfl⟩ := okWide_slice Tryd.underlying22 (hval 0 22 v0 rfl rfl)
  have k0 := h0
  have lt0 : ∀ x ∈ p0, x.block < W.heap.size := by obtain ⟨m, hm⟩ := k0; exact DataW.trod_lt m _ _ _ hm
  obtain ⟨z0, w0⟩ : ∃ zs, IsRow .u8 W a0 len0 cap0 zs := by
    obtain ⟨fuel, hf⟩ := h0
    rcases open_ints Tryd.underlying22 Tryd.underlying5 (by kernel_rfl) hf with ⟨hcs, _⟩ | ⟨x, l, c, zs, hcs, _, hl, hm, hz, _, hcell, hwz⟩
    · simp [Value.cells] at hcs
      obtain ⟨rfl, rfl, rfl⟩ := hcs
      exact ⟨[], .inl ⟨rfl, rfl, rfl, rfl⟩⟩
    · simp [Value.cells] at hcs
      obtain ⟨rfl, rfl, rfl⟩ := hcs
      exact ⟨zs, .inr ⟨_, rfl, hl, hm, by simpa using hz, hcell, hwz⟩⟩
  obtain ⟨a1, len1, cap1, rfl⟩ := okWide_slice Tryd.underlying22 (hval 1 22 v1 rfl rfl)
  have k1 := h1
  have lt1 : ∀ x ∈ p1, x.block < W.heap.size := by obtain ⟨m, hm⟩ := k1; exact DataW.trod_lt m _ _ _ hm
  obtain ⟨z1, w1⟩ : ∃ zs, IsRow .u8 W a1 len1 cap1 zs := by
    obtain ⟨fuel, hf⟩ := h1
    rcases open_ints Tryd.underlying22 Tryd.underlying5 (by kernel_rfl) hf with ⟨hcs, _⟩ | ⟨x, l, c, zs, hcs, _, hl, hm, hz, _, hcell, hwz⟩
    · simp [Value.cells] at hcs
      obtain ⟨rfl, rfl, rfl⟩ := hcs
      exact ⟨[], .inl ⟨rfl, rfl, rfl, rfl⟩⟩
    · simp [Value.cells] at hcs
      obtain ⟨rfl, rfl, rfl⟩ := hcs
      exact ⟨zs, .inr ⟨_, rfl, hl, hm, by simpa using hz, hcell, hwz⟩⟩
  clear hA0 hval0
  refine (fnNext_walk a0 len0 cap0 z0 a1 len1 cap1 z1 W w0 w1 (fnNext_laid hL)).mono fun e W' ⟨he, bel⟩ => ?_
  subst he
  have hv' := vars_below fnNext_laidOut bel (by kernel_rfl) hVs
  exact ⟨_, rfl, _, _, _, [], _, q, hW', trodAll_mk1 (shut_bool Tryd.underlying4 _), (trodAll_cons_mk (Below.trod fnNext_laidOut (by kernel_rfl) (of_decide_eq_true (by kernel_rfl)) k0 bel lt0) (trodAll_cons_mk (Below.trod fnNext_laidOut (by kernel_rfl) (of_decide_eq_true (by kernel_rfl)) k1 bel lt1) trodAll_mk0)), hv', bel.frame _, fun h => by cases h⟩

theorem fnNext_said : Rows.FnNextSaid :=
  OpenClaim.holds_of_wide 3 Tryd.f3 rfl rfl rfl rfl rfl rfl rfl ⟨rfl, rfl, rfl, rfl, rfl⟩ rfl rfl rfl rfl rfl (by kernel_rfl) Tryd.func3 (by kernel_rfl)
    (of_decide_eq_true (by kernel_rfl)) (by unfold Func.isWrapper; rw [if_neg (of_decide_eq_false (by kernel_rfl))]; exact ⟨rfl, rfl⟩)
    (fun os started H enc _ => fnNext_lifted os started H enc)

theorem fnNext_card : Rows.FnNextCardSaid :=
  Claim7.holds_tied_plain_at .later [] [.wider] true (true, "8804be1bfc51928644b9cff2352f40ea19b983334ae0d437d1ed1f16e7cb2535") true
    fnNext_said (fun _ h => by cases h) (by kernel_rfl) (fun _ h => by cases h) fnNext_row_tie rfl ⟨rfl, rfl⟩ (by kernel_rfl) rfl
    (fun f fn hf hfn => by
      obtain rfl : f = 3 := Option.some.inj ((show Tryd.prog.funcNamed "loop.example/g00632/laws.FnNext" = some 3 by kernel_rfl).symm.trans hf) |>.symm
      obtain rfl : fn = Tryd.f3 := (Option.some.inj (Tryd.func3.symm.trans hfn)).symm
      exact ⟨by kernel_rfl, fun j t ht => by
        rw [Tryd.params3] at ht
        have hm : t ∈ [22, 22] := by simpa using Array.mem_of_getElem? ht
        have hall : ([22, 22].all fun u => !Tryd.prog.wantsStandIn u) = true := by kernel_rfl
        exact (show Tryd.prog.wantsStandIn t = false by simpa using List.all_eq_true.1 hall t hm)⟩)
    (by kernel_rfl)
#print axioms fnNext_card
end Go.Proofs.YtdojjmkpelgcaaaDoor
