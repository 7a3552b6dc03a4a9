/-
  Joined: RecQ.
-/
import Derived.Test.YtdopgkbegjfhjaaGreatDoorR41

namespace Go.Proofs.YtdopgkbegjfhjaaGreatDoor
set_option maxRecDepth 100000
set_option maxHeartbeats 16000000
open Go.RowKit
set_option linter.unusedVariables false
set_option linter.unusedSimpArgs false

def K9 (x:ByteArray):Nat:=(pack x.size).length
theorem pack_len5 (n:Nat):1≤(pack n).length∧(pack n).length≤5:=by
 unfold pack
 (repeat' split)<;>simp
theorem K9_le (x:ByteArray):1≤K9 x∧K9 x≤5:=pack_len5 _
theorem head9_len (x:ByteArray):(headOf x).length=K9 x+2:=by
 unfold headOf K9
 simp
theorem frame9_size (x:ByteArray):(frameOf x).size=K9 x+2+x.size:=by
 unfold frameOf
 rw [ByteArray.size_append,strOfNums_size,head9_len]
theorem recT_small {r:R2} (h:RecOk r):(recT r).size≤1000:=by
 rw [recT_size]
 have:=h.1
 omega
theorem no_nxt_short {u:ByteArray} (h:u.size<3) (r:R2) (n:Nat):¬ Nxt u r n:=fun k=>by
 have:=k.le
 omega
end Go.Proofs.YtdopgkbegjfhjaaGreatDoor
