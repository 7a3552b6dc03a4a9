/-
  Joined: RecgE.
-/
import Derived.Test.YtdopgkbegjfhjaaC48

namespace Go.Proofs.Ytdopgkbegjfhjaa
set_option maxRecDepth 100000
set_option maxHeartbeats 16000000
open Go.RowKit
set_option linter.unusedVariables false

theorem fnExactCommitText_walk (a0:Option Addr) (n0 c0:Nat) (z0:List I3) (w:World) (h0:Instrs w a0 n0 c0 z0) :
  Calls Try.prog 3 #[.slice a0 n0 c0] w fun e w'=>e=.returned (.bool true)∧Below w.heap.size w w':=
 fnExactCommitText_of (fun _=>True) (fun _ _ _ _=>trivial) a0 n0 c0 z0 w h0 trivial (fun a n c w _ h _=>implCommitText_is a n c z0 w h)
end Go.Proofs.Ytdopgkbegjfhjaa
