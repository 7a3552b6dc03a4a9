/-
  fnMemo: the law FnMemo holds of the program at every input (the listed package-level variables as the text lays them): the frame round our walk.
-/
import Derived.Test.YtbdfbdbpjijcdaaGreatDoorFnMemoFacts
import Derived.Test.YtbdfbdbpjijcdaaGreatDoorM01
import Derived.Test.YtbdfbdbpjijcdaaGreatDoorM02
import Derived.Test.YtbdfbdbpjijcdaaGreatDoorM03
import Derived.Test.YtbdfbdbpjijcdaaGreatDoorM04
import Derived.Test.YtbdfbdbpjijcdaaGreatDoorM05
import Derived.Test.YtbdfbdbpjijcdaaGreatDoorM06
import Derived.Test.YtbdfbdbpjijcdaaGreatDoorM07
import Derived.Test.YtbdfbdbpjijcdaaGreatDoorM08
import Derived.Test.YtbdfbdbpjijcdaaGreatDoorM09
import Derived.Test.YtbdfbdbpjijcdaaGreatDoorM10
import Derived.Test.YtbdfbdbpjijcdaaGreatDoorM11
import Derived.Test.YtbdfbdbpjijcdaaGreatDoorM12
import Derived.Test.YtbdfbdbpjijcdaaGreatDoorM13
import Derived.Test.YtbdfbdbpjijcdaaGreatDoorM14
import Derived.Test.YtbdfbdbpjijcdaaGreatDoorM15
import Derived.Test.YtbdfbdbpjijcdaaGreatDoorM16
import Derived.Test.YtbdfbdbpjijcdaaGreatDoorM17
import Derived.Test.YtbdfbdbpjijcdaaGreatDoorM18
import Derived.Test.YtbdfbdbpjijcdaaGreatDoorM19
import Derived.Test.YtbdfbdbpjijcdaaGreatDoorM20
import Derived.Test.YtbdfbdbpjijcdaaGreatDoorM21
import Derived.Test.YtbdfbdbpjijcdaaGreatDoorM22
import Derived.Test.YtbdfbdbpjijcdaaGreatDoorM23
import Derived.Test.YtbdfbdbpjijcdaaGreatDoorM24
import Derived.Test.YtbdfbdbpjijcdaaGreatDoorM25
import Derived.Test.YtbdfbdbpjijcdaaGreatDoorM26
import Derived.Test.YtbdfbdbpjijcdaaGreatDoorM27
import Derived.Test.YtbdfbdbpjijcdaaGreatDoorM28
import Derived.Test.YtbdfbdbpjijcdaaGreatDoorM29
import Derived.Test.YtbdfbdbpjijcdaaGreatDoorM30
import Derived.Test.YtbdfbdbpjijcdaaGreatDoorM31
import Derived.Test.YtbdfbdbpjijcdaaGreatDoorM32
import Derived.Test.YtbdfbdbpjijcdaaGreatDoorM33
import Derived.Test.YtbdfbdbpjijcdaaGreatDoorM34
import Derived.Test.YtbdfbdbpjijcdaaGreatDoorM35
import Derived.Test.YtbdfbdbpjijcdaaGreatDoorM36
import Derived.Test.YtbdfbdbpjijcdaaGreatDoorM37
import Derived.Test.YtbdfbdbpjijcdaaGreatDoorM38
import Derived.Test.YtbdfbdbpjijcdaaGreatDoorM39
import Derived.Test.YtbdfbdbpjijcdaaGreatDoorM40
import Derived.Test.YtbdfbdbpjijcdaaGreatDoorM41
import Derived.Test.YtbdfbdbpjijcdaaGreatDoorM42
import Derived.Test.YtbdfbdbpjijcdaaGreatDoorM43
import Derived.Test.YtbdfbdbpjijcdaaGreatDoorM44
import Derived.Test.YtbdfbdbpjijcdaaGreatDoorM45
import Derived.Test.YtbdfbdbpjijcdaaGreatDoorM46
import Derived.Test.YtbdfbdbpjijcdaaGreatDoorM47
import Derived.Test.YtbdfbdbpjijcdaaGreatDoorM48
import Derived.Test.YtbdfbdbpjijcdaaGreatDoorM49
import Derived.Test.YtbdfbdbpjijcdaaGreatDoorM50
import Derived.Test.YtbdfbdbpjijcdaaGreatDoorRows
import Derived.Test.YtbdfbdbpjijcdaaGreatDoorCards
import Derived.Test.YtbdfbdbpjijcdaaGreatDoorTie
import Derived.WalkKit
import Derived.ProofKit
import Derived.OpenShut
import Derived.ShutString
import Derived.ChangeOld
import Derived.Below
import Derived.Stop.Joined
import Derived.SevenTiedAt
import Derived.LaidMore
namespace Go.Proofs.YtbdfbdbpjijcdaaGreatDoor
open Go.ChangeShapes Go.WideShapes Go.ChangeAt Go.RowKit
open Go.ChangeMaps (open_string shut_string)
set_option linter.unusedVariables false

theorem fnMemo_own : ownKnob Tryz.prog.godebug = none := by kernel_rfl
theorem fnMemo_laidOut : laidOutB Tryz.prog = true := by kernel_rfl

set_option maxRecDepth 100000 in
theorem fnMemo_lifted (os : Os) (started : os.Started) (H : Type) (enc : TypeId × Value → H) :
    ReturnsInHanded {} Tryz.checked os 4 .any (fun w args => (Rows.fnMemoSpec.pre enc Tryz.prog Tryz.f4 [] false w args ∧ laidMetH Tryz.prog Rows.fnMemoRow.laid w) ∧ sizedMet enc Tryz.prog Tryz.f4 (OpenSpec.ofChange Rows.fnMemoSpec) false w args)
      (Rows.fnMemoSpec.post enc Tryz.prog Tryz.f4 false true false false) := by
  refine returnsInHanded_of_change_and (C := Tryz.checked) (X := fun w _ => laidMetH Tryz.prog Rows.fnMemoRow.laid w) (fun _ _ _ hh h => h.of_heap hh) fnMemo_own started (by kernel_rfl) Tryz.func4
    (ChangeSpec.witness_shaped (enc := enc) (C := Tryz.checked) (os := os) (X := fun w _ => laidMetH Tryz.prog Rows.fnMemoRow.laid w) false (World.doorLaid Tryz.prog 400 os) #[.slice none 0 0, .slice none 0 0] 8 rfl (World.shaped_of_RefB (by kernel_rfl) (by kernel_rfl)) (by kernel_rfl) (by kernel_rfl) (by kernel_rfl) (fnMemo_door_met os _)) ?_
  intro W base args ds gs before hval0 hW _ _ hL _
  have hval : ∀ (j : Nat) t v, Tryz.f4.params[j]? = some t → args[j]? = some v → Value.okWide Tryz.prog W .any base t v := hval0
  have hW' := hW
  obtain ⟨p, q, hA0, hV, rfl, hfz, hnd⟩ := hW
  have hA : DataW.TrodAll enc Tryz.prog W 0 (fun _ => true) true Tryz.f4.params.toList args.toList ds p := hA0
  rw [Tryz.params4] at hA hval
  obtain ⟨v0, vs0, d0, ds0, p0, q0, hargs, rfl, rfl, h0, r0⟩ := trodAll_cons hA
  obtain ⟨v1, vs1, d1, ds1, p1, q1, rfl, rfl, rfl, h1, r1⟩ := trodAll_cons r0
  obtain ⟨rfl, rfl, rfl⟩ := trodAll_nil r1
  obtain rfl : args = #[v0, v1] := by cases args; simp_all
  have hVs : DataW.TrodVars enc Tryz.prog W (fun _ => true) ["loop.example/g00632/impl.vmShape"] gs q := hV
  obtain ⟨g0, rfl⟩ : ∃ g0, gs = [g0] := by
    have hlen := vars_len hVs
    match gs, hlen with
    | [g0], _ => exact ⟨g0, rfl⟩
  obtain ⟨a0, len0, cap0, rfl⟩ := okWide_slice Tryz.underlying22 (hval 0 22 v0 rfl rfl)
  have k0 := h0
  have lt0 : ∀ x ∈ p0, x.block < W.heap.size := by obtain ⟨m, hm⟩ := k0; exact DataW.trod_lt m _ _ _ hm
  obtain ⟨z0, w0⟩ : ∃ zs, IsRow .u8 W a0 len0 cap0 zs := by
    obtain ⟨fuel, hf⟩ := h0
    rcases open_ints Tryz.underlying22 Tryz.underlying5 (by kernel_rfl) hf with ⟨hcs, _⟩ | ⟨x, l, c, zs, hcs, _, hl, hm, hz, _, hcell, hwz⟩
    · simp [Value.cells] at hcs
      obtain ⟨rfl, rfl, rfl⟩ := hcs
      exact ⟨[], .inl ⟨rfl, rfl, rfl, rfl⟩⟩
    · simp [Value.cells] at hcs
      obtain ⟨rfl, rfl, rfl⟩ := hcs
      exact ⟨zs, .inr ⟨_, rfl, hl, hm, by simpa using hz, hcell, hwz⟩⟩
  obtain ⟨a1, len1, cap1, rfl⟩ := okWide_slice Tryz.underlying22 (hval 1 22 v1 rfl rfl)
  have k1 := h1
  have lt1 : ∀ x ∈ p1, x.block < W.heap.size := by obtain ⟨m, hm⟩ := k1; exact DataW.trod_lt m _ _ _ hm
  obtain ⟨z1, w1⟩ : ∃ zs, IsRow .u8 W a1 len1 cap1 zs := by
    obtain ⟨fuel, hf⟩ := h1
    rcases open_ints Tryz.underlying22 Tryz.underlying5 (by kernel_rfl) hf with ⟨hcs, _⟩ | ⟨x, l, c, zs, hcs, _, hl, hm, hz, _, hcell, hwz⟩
    · simp [Value.cells] at hcs
      obtain ⟨rfl, rfl, rfl⟩ := hcs
      exact ⟨[], .inl ⟨rfl, rfl, rfl, rfl⟩⟩
    · simp [Value.cells] at hcs
      obtain ⟨rfl, rfl, rfl⟩ := hcs
      exact ⟨zs, .inr ⟨_, rfl, hl, hm, by simpa using hz, hcell, hwz⟩⟩
  clear hA0 hval0
  refine (fnMemo_walk a0 len0 cap0 z0 a1 len1 cap1 z1 W w0 w1 (fnMemo_laid hL)).mono fun e W' ⟨he, bel⟩ => ?_
  subst he
  have hv' := vars_below fnMemo_laidOut bel (by kernel_rfl) hVs
  exact ⟨_, rfl, _, _, _, [], _, q, hW', trodAll_mk1 (shut_bool Tryz.underlying4 _), (trodAll_cons_mk (Below.trod fnMemo_laidOut (by kernel_rfl) (of_decide_eq_true (by kernel_rfl)) k0 bel lt0) (trodAll_cons_mk (Below.trod fnMemo_laidOut (by kernel_rfl) (of_decide_eq_true (by kernel_rfl)) k1 bel lt1) trodAll_mk0)), hv', bel.frame _, fun h => by cases h⟩

theorem fnMemo_said : Rows.FnMemoSaid :=
  OpenClaim.holds_of_wide 4 Tryz.f4 rfl rfl rfl rfl rfl rfl rfl ⟨rfl, rfl, rfl, rfl, rfl⟩ rfl rfl rfl rfl rfl (by kernel_rfl) Tryz.func4 fnMemo_facts
    (of_decide_eq_true (by kernel_rfl)) (by unfold Func.isWrapper; rw [if_neg (of_decide_eq_false (by kernel_rfl))]; exact ⟨rfl, rfl⟩)
    (fun os started H enc _ => fnMemo_lifted os started H enc)

theorem fnMemo_card : Rows.FnMemoCardSaid :=
  Claim7.holds_tied_plain_at .later [] [.handle, .wider] true (true, "4c76fb5ef2e24b4b1c0ff5022a27cc3174e03ca118ee4ce1dc5d5d4c3ffd15d1") true
    fnMemo_said (fun _ h => by cases h) fnMemo_w (fun _ h => by cases h) fnMemo_row_tie rfl ⟨rfl, rfl⟩ fnMemo_main rfl
    (fun f fn hf hfn => by
      obtain rfl : f = 4 := Option.some.inj ((show Tryz.prog.funcNamed "loop.example/g00632/laws.FnMemo" = some 4 by kernel_rfl).symm.trans hf) |>.symm
      obtain rfl : fn = Tryz.f4 := (Option.some.inj (Tryz.func4.symm.trans hfn)).symm
      exact ⟨fnMemo_looks, fun j t ht => by
        rw [Tryz.params4] at ht
        have hm : t ∈ [22, 22] := by simpa using Array.mem_of_getElem? ht
        have hall : ([22, 22].all fun u => !Tryz.prog.wantsStandIn u) = true := by kernel_rfl
        exact (show Tryz.prog.wantsStandIn t = false by simpa using List.all_eq_true.1 hall t hm)⟩)
    fnMemo_goes
#print axioms fnMemo_card
end Go.Proofs.YtbdfbdbpjijcdaaGreatDoor
