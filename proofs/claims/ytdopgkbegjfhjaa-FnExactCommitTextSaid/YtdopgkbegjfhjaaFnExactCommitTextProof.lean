/-
  fnExactCommitText: the law FnExactCommitText holds of the program at every input: the frame round our walk.
-/
import Derived.Test.YtdopgkbegjfhjaaC01
import Derived.Test.YtdopgkbegjfhjaaC02
import Derived.Test.YtdopgkbegjfhjaaC03
import Derived.Test.YtdopgkbegjfhjaaC04
import Derived.Test.YtdopgkbegjfhjaaC05
import Derived.Test.YtdopgkbegjfhjaaC06
import Derived.Test.YtdopgkbegjfhjaaC07
import Derived.Test.YtdopgkbegjfhjaaC08
import Derived.Test.YtdopgkbegjfhjaaC09
import Derived.Test.YtdopgkbegjfhjaaC10
import Derived.Test.YtdopgkbegjfhjaaC11
import Derived.Test.YtdopgkbegjfhjaaC12
import Derived.Test.YtdopgkbegjfhjaaC13
import Derived.Test.YtdopgkbegjfhjaaC14
import Derived.Test.YtdopgkbegjfhjaaC15
import Derived.Test.YtdopgkbegjfhjaaC16
import Derived.Test.YtdopgkbegjfhjaaC17
import Derived.Test.YtdopgkbegjfhjaaC18
import Derived.Test.YtdopgkbegjfhjaaC19
import Derived.Test.YtdopgkbegjfhjaaC20
import Derived.Test.YtdopgkbegjfhjaaC21
import Derived.Test.YtdopgkbegjfhjaaC22
import Derived.Test.YtdopgkbegjfhjaaC23
import Derived.Test.YtdopgkbegjfhjaaC24
import Derived.Test.YtdopgkbegjfhjaaC25
import Derived.Test.YtdopgkbegjfhjaaC26
import Derived.Test.YtdopgkbegjfhjaaC27
import Derived.Test.YtdopgkbegjfhjaaC28
import Derived.Test.YtdopgkbegjfhjaaC29
import Derived.Test.YtdopgkbegjfhjaaC30
import Derived.Test.YtdopgkbegjfhjaaC31
import Derived.Test.YtdopgkbegjfhjaaC32
import Derived.Test.YtdopgkbegjfhjaaC33
import Derived.Test.YtdopgkbegjfhjaaC34
import Derived.Test.YtdopgkbegjfhjaaC35
import Derived.Test.YtdopgkbegjfhjaaC36
import Derived.Test.YtdopgkbegjfhjaaC37
import Derived.Test.YtdopgkbegjfhjaaC38
import Derived.Test.YtdopgkbegjfhjaaC39
import Derived.Test.YtdopgkbegjfhjaaC40
import Derived.Test.YtdopgkbegjfhjaaC41
import Derived.Test.YtdopgkbegjfhjaaC42
import Derived.Test.YtdopgkbegjfhjaaC43
import Derived.Test.YtdopgkbegjfhjaaC44
import Derived.Test.YtdopgkbegjfhjaaC45
import Derived.Test.YtdopgkbegjfhjaaC46
import Derived.Test.YtdopgkbegjfhjaaC47
import Derived.Test.YtdopgkbegjfhjaaC48
import Derived.Test.YtdopgkbegjfhjaaC49
import Derived.Test.YtdopgkbegjfhjaaRows
import Derived.WalkKit
import Derived.ProofKit
import Derived.OpenShut
import Derived.ShutString
import Derived.ChangeOld
import Derived.Below
namespace Go.Proofs.Ytdopgkbegjfhjaa
open Go.ChangeShapes Go.WideShapes Go.ChangeAt Go.RowKit
open Go.ChangeMaps (open_string shut_string)
set_option linter.unusedVariables false

theorem fnExactCommitText_own : ownKnob Try.prog.godebug = none := by kernel_rfl
theorem fnExactCommitText_laidOut : laidOutB Try.prog = true := by kernel_rfl

set_option maxRecDepth 100000 in
theorem fnExactCommitText_lifted (os : Os) (started : os.Started) (H : Type) (enc : TypeId × Value → H) :
    ReturnsInHanded {} Try.checked os 3 .any (Rows.fnExactCommitTextSpec.pre6 enc Try.prog Try.f3 Rows.fnExactCommitTextRow.domain false) (Rows.fnExactCommitTextSpec.post enc Try.prog Try.f3 false true false false) := by
  refine returnsInHanded_of_change (C := Try.checked) fnExactCommitText_own started (by kernel_rfl) Try.func3
    (ChangeSpec.witness6 (enc := enc) (C := Try.checked) false ⟨#[], #[.slice none 0 0], []⟩ 8 (by kernel_rfl) (by kernel_rfl) (by kernel_rfl) (by kernel_rfl)) ?_
  intro W base args ds gs before hval0 hW hcnd _
  have hval : ∀ (j : Nat) t v, Try.f3.params[j]? = some t → args[j]? = some v → Value.okWide Try.prog W .any base t v := hval0
  have hW' := hW
  obtain ⟨p, q, hA0, hV, rfl, hfz, hnd⟩ := hW
  have hA : DataW.TrodAll enc Try.prog W 0 (fun _ => true) true Try.f3.params.toList args.toList ds p := hA0
  rw [Try.params3] at hA hval
  obtain ⟨v0, vs0, d0, ds0, p0, q0, hargs, rfl, rfl, h0, r0⟩ := trodAll_cons hA
  obtain ⟨rfl, rfl, rfl⟩ := trodAll_nil r0
  obtain rfl : args = #[v0] := by cases args; simp_all
  obtain ⟨rfl, rfl⟩ := trodVars_none hV
  have k0 := h0
  have lt0 : ∀ x ∈ p0, x.block < W.heap.size := by obtain ⟨m, hm⟩ := k0; exact DataW.trod_lt m _ _ _ hm
  obtain ⟨a0, len0, cap0, z0, rfl, w0⟩ := open_laws_Bugs (hval 0 22 v0 rfl rfl) h0
  clear hA0 hval0
  refine (fnExactCommitText_walk a0 len0 cap0 z0 W w0).mono fun e W' ⟨he, bel⟩ => ?_
  subst he
  exact ⟨_, rfl, _, _, _, [], _, [], hW', trodAll_mk1 (shut_bool Try.underlying4 _), (trodAll_cons_mk (Below.trod fnExactCommitText_laidOut (by kernel_rfl) (of_decide_eq_true (by kernel_rfl)) k0 bel lt0) trodAll_mk0), rfl, bel.frame _, fun h => by cases h⟩

theorem fnExactCommitText_said : Rows.FnExactCommitTextSaid :=
  OpenClaim.holds_of_wide 3 Try.f3 rfl rfl rfl rfl rfl rfl rfl ⟨rfl, rfl, rfl, rfl, rfl⟩ rfl rfl rfl rfl rfl (by kernel_rfl) Try.func3 (by kernel_rfl)
    (of_decide_eq_true (by kernel_rfl)) (by unfold Func.isWrapper; rw [if_neg (of_decide_eq_false (by kernel_rfl))]; exact ⟨rfl, rfl⟩)
    (fun os started H enc _ => fnExactCommitText_lifted os started H enc)
#print axioms fnExactCommitText_said
end Go.Proofs.Ytdopgkbegjfhjaa
