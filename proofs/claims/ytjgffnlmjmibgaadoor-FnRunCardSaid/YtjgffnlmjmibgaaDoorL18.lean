/-
  Joined: VmOfI.
-/
import Derived.Test.YtjgffnlmjmibgaaDoorL10
import Derived.Test.YtjgffnlmjmibgaaDoorL16

namespace Go.Proofs.YtjgffnlmjmibgaaDoor
set_option maxRecDepth 100000
set_option maxHeartbeats 16000000
open Go.RowKit
set_option linter.unusedVariables false

def VmGot (e:Ending) (w:World) (B:Nat) (z:V4) (c:Int):Prop:=∃ t:S4,e=.returned (.tuple #[t.val,.int .i64 c])∧OwnV w B t z
theorem VmGot.mk9 {e:Ending} {w:World} {B:Nat} {z:V4} {c:Int} (t:S4) (h:e=.returned (.tuple #[t.val,.int .i64 c])) (hO:OwnV w B t z):VmGot e w B z c:=⟨t,h,hO⟩

theorem fits_small {z:Int} (h:-1000≤z) (h':z≤1000):(Lit.int .i64 z).wf=true:=by
 simp only [Lit.wf,Bool.and_eq_true,decide_eq_true_eq]
 have h1:IntKind.i64.min=-9223372036854775808:=by decide
 have h2:IntKind.i64.max=9223372036854775807:=by decide
 omega
theorem newVm_open {w:World} {B:Nat} {t:S4} (h:OwnV w B t zeroV):∃ g0 g1 g2 g3 c0 c1 c2 c3,t=((some ⟨g0,0,none⟩,3,c0),(some ⟨g1,0,none⟩,4,c1),(some ⟨g2,0,none⟩,2,c2),(some ⟨g3,0,none⟩,6,c3))∧(3≤c0∧4≤c1∧2≤c2∧6≤c3)∧c0≤maxLen∧c1≤maxLen∧c2≤maxLen∧c3≤maxLen:=by
 obtain ⟨s0,s1,s2,s3⟩:=t
 obtain ⟨⟨o0,o1,o2,o3⟩,_⟩:=h
 obtain ⟨g0,c0,e0,l0,m0⟩:=o0.some9 (k:=3) rfl (by decide)
 obtain ⟨g1,c1,e1,l1,m1⟩:=o1.some9 (k:=4) rfl (by decide)
 obtain ⟨g2,c2,e2,l2,m2⟩:=o2.some9 (k:=2) rfl (by decide)
 obtain ⟨g3,c3,e3,l3,m3⟩:=o3.some9 (k:=6) rfl (by decide)
 simp only at e0 e1 e2 e3
 exact ⟨g0,g1,g2,g3,c0,c1,c2,c3,by rw [e0,e1,e2,e3],⟨l0,l1,l2,l3⟩,m0,m1,m2,m3⟩

end Go.Proofs.YtjgffnlmjmibgaaDoor
