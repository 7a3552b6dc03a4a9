
/-
  leadsOn: a jump leads behind its own place, at most to the code's end.
-/
import Derived.Test.YtkmnnmgopnoffaaInstrI
namespace Go.Proofs.Ytkmnnmgopnoffaa
open Go.RowKit

def leads (x : I3) (k n : Int) : Bool := if x.1 = 7 then inB x.2.2 (k + 1) n else true


end Go.Proofs.Ytkmnnmgopnoffaa
