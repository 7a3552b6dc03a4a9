/-
  Joined: VmOfI.
-/
import Derived.Shelf.Abstract
import Derived.Laws.BytesArg
import Derived.Deep.RegionLaw
import Derived.Laws.OwnMore
import Derived.Laws.CopyOwn
import Derived.Laws.Tables
import Derived.BigRegion
import Derived.Test.YtjgffnlmjmibgaaDoorK05

namespace Go.Proofs.YtjgffnlmjmibgaaDoor
set_option maxRecDepth 100000
set_option maxHeartbeats 16000000
open Go.RowKit
set_option linter.unusedVariables false

def VmGot (e:Ending) (w:World) (B:Nat) (z:V4) (c:Int):Prop:=∃ t:S4,e=.returned (.tuple #[t.val,.int .i64 c])∧OwnV w B t z
theorem VmGot.mk9 {e:Ending} {w:World} {B:Nat} {z:V4} {c:Int} (t:S4) (h:e=.returned (.tuple #[t.val,.int .i64 c])) (hO:OwnV w B t z):VmGot e w B z c:=⟨t,h,hO⟩

theorem fits_small {z:Int} (h:-1000≤z) (h':z≤1000):(Lit.int .i64 z).wf=true:=by
 simp only [Lit.wf,Bool.and_eq_true,decide_eq_true_eq]
 have h1:IntKind.i64.min=-9223372036854775808:=by decide
 have h2:IntKind.i64.max=9223372036854775807:=by decide
 omega
end Go.Proofs.YtjgffnlmjmibgaaDoor
