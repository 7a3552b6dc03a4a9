/-
  Joined: FulB, FulD.
-/
import Derived.Test.YtfpopbbmnbehiaaDoorB34

namespace Go.Proofs.YtfpopbbmnbehiaaDoor
set_option maxRecDepth 100000
set_option maxHeartbeats 16000000
set_option linter.unusedVariables false

def remM (rows:List (List I3)) (m:V4) (k:Nat):Nat:=(codeM rows k).length - (m.1.getD k 0).toNat


def capN (n:Nat):Nat:=Nat.min n 1000000
def cntF (rows:List (List I3)):Nat→V4→Nat
 | 0,_=>1
 | f+1,m=>if enabM rows m 3=[] then 1 else capN ((enabM rows m 3).map fun k=>cntF rows f (goM rows m k).1).sum
def leftN (rows:List (List I3)) (m:V4):Nat:=remM rows m 0+remM rows m 1+remM rows m 2
def cntM (rows:List (List I3)) (m:V4):Nat:=cntF rows (leftN rows m) m
theorem enab_halt {rows:List (List I3)} {m:V4} {k:Int} (h:k ∈ enabM rows m 3):haltM rows m k=0:=(nxM_mem (t:=(k,(goM rows m k).1)) (List.mem_map.2 ⟨k,h,rfl⟩)).1
end Go.Proofs.YtfpopbbmnbehiaaDoor
