/-
  Joined: RpB, RpE.
-/
import Derived.Deep.Cut
import Derived.Stop.Asserts
import Derived.Recover
import Derived.Test.YtfpopbbmnbehiaaDoorB17

namespace Go.Proofs.YtfpopbbmnbehiaaDoor
set_option maxRecDepth 100000
set_option maxHeartbeats 16000000
open Go.RowKit
set_option linter.unusedVariables false
set_option linter.unusedSimpArgs false

theorem below_lowR {B C:Nat} {a b:World} (h:Below C a b) (hB:B≤C):Below B a b:=⟨h.os,h.tape,h.output,h.size,fun k hk=>h.block k (by omega)⟩


theorem bel_transR {B:Nat} {a b c:World} (h:Below B a b) (k:Below B b c):Below B a c:=⟨k.os.trans h.os,k.tape.trans h.tape,k.output.trans h.output,Nat.le_trans h.size k.size,fun j hj=>(k.block j hj).trans (h.block j hj)⟩
theorem ownM_len (rows:List (List I3)) (m:V4) (k:Int):(ownM rows m k).length≤1:=by unfold ownM;split<;>simp
end Go.Proofs.YtfpopbbmnbehiaaDoor
