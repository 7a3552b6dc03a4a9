/-
  Joined: VmOfI.
-/
import Derived.Shelf.Abstract
import Derived.Laws.BytesArg
import Derived.Deep.RegionLaw
import Derived.Laws.OwnMore
import Derived.Laws.CopyOwn
import Derived.Laws.Tables
import Derived.BigRegion
import Derived.Test.YtdojjmkpelgcaaaGreatDoorL04

namespace Go.Proofs.YtdojjmkpelgcaaaGreatDoor
set_option maxRecDepth 100000
open Go.RowKit
set_option linter.unusedVariables false

def VmGot (e : Ending) (w : World) (B : Nat) (z : V4) (c : Int) : Prop := ∃ t : S4, e = .returned (.tuple #[t.val, .int .i64 c]) ∧ OwnV w B t z
theorem VmGot.mk9 {e : Ending} {w : World} {B : Nat} {z : V4} {c : Int} (t : S4) (h : e = .returned (.tuple #[t.val, .int .i64 c])) (hO : OwnV w B t z) : VmGot e w B z c := ⟨t, h, hO⟩

def btV (s : ByteArray) (i : Nat) : Int := ((s.data.toList.getD i 0).toNat : Int)
theorem fits_small {z : Int} (h : -1000 ≤ z) (h' : z ≤ 1000) : (Lit.int .i64 z).wf = true := by
 simp only [Lit.wf, Bool.and_eq_true, decide_eq_true_eq]
 have h1 : IntKind.i64.min = -9223372036854775808 := by decide
 have h2 : IntKind.i64.max = 9223372036854775807 := by decide
 omega
def fillL (s : ByteArray) (off n i : Nat) : List Int := (List.range n).map fun j => if off + j < i then btV s (off + j) - 48 else 0
def partV (s : ByteArray) (i : Nat) : V4 := (fillL s 0 3 i, fillL s 3 4 i, fillL s 7 2 i, fillL s 9 6 i)
def bytesV (s : ByteArray) : V4 := partV s 15
end Go.Proofs.YtdojjmkpelgcaaaGreatDoor
