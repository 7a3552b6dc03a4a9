/-
  FnStep, part 45 of 50 (KeyA, Vm5).
-/
import Derived.Test.YtkmnnmgopnoffaaDoorJ44
import Derived.Test.YtkmnnmgopnoffaaDoorJ15
import Derived.Deep.RegionHeld3

/-
  What KeyOf answers, of whatever state.
-/
namespace Go.Proofs.YtkmnnmgopnoffaaDoor
open Go.RowKit

def keyA (m : V4) : ByteArray := if shapeOk m then keyT m else ByteArray.empty
def keyC (m : V4) : Int := if shapeOk m then 0 else 1
theorem specKeyOf_is (s : S4) (m : V4) (w : World) (h : Vmem w s m) :
    Calls Tryd.prog 22 #[s.val] w fun e w' => e = .returned (.tuple #[.string (keyA m), .int .i64 (keyC m)]) ∧ Below w.heap.size w w' := by
  unfold keyA keyC
  cases hok : shapeOk m
  · exact specKeyOf_bad s m w h hok
  · exact specKeyOf_ok s m w h hok
theorem implKeyOf_is (s : S4) (m : V4) (w : World) (h : Vmem w s m) (hV : VmShape w) :
    Calls Tryd.prog 21 #[s.val] w fun e w' => e = .returned (.tuple #[.string (keyA m), .int .i64 (keyC m)]) ∧ Below w.heap.size w w' := by
  unfold keyA keyC
  cases hok : shapeOk m
  · exact implKeyOf_bad s m w h hok hV
  · exact implKeyOf_ok s m w h hok hV
end Go.Proofs.YtkmnnmgopnoffaaDoor


/-
  The specification's SameVm: both have their shape, and their keys are one.
-/
namespace Go.Proofs.YtkmnnmgopnoffaaDoor
open Go.RowKit

/-- What SameVm answers. -/
def sameV (m q : V4) : Bool := shapeOk m && (shapeOk q && ((keyT m).toList == (keyT q).toList))

end Go.Proofs.YtkmnnmgopnoffaaDoor
