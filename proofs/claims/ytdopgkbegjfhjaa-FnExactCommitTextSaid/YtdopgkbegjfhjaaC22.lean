/-
  Joined: Take.
-/
import Derived.Test.YtdopgkbegjfhjaaProg
import Derived.Deep.RegionHeld3
import Derived.KernelRfl
import Derived.Tactics
import Derived.WalkKit
import Derived.Laws.RangeString
import Derived.Laws.RangeAny
import Derived.Laws.Bits

namespace Go.Proofs.Ytdopgkbegjfhjaa
set_option maxRecDepth 100000
set_option maxHeartbeats 16000000

def bt (s:ByteArray) (k:Nat):Nat:=if h:k<s.size then (s[k]'h).toNat else 0
def hv (s:ByteArray) (p k:Nat):Nat→Nat
 | 0=>0
 | j+1=>hv s p k j*128+bt s (p+k - 1 - j) % 128
end Go.Proofs.Ytdopgkbegjfhjaa
