/-
  Joined: MachS.
-/
import Derived.Handy
import Derived.OwnWalk
import Derived.Shelf.Abstract
import Derived.Laws.BytesArg
import Derived.Deep.RegionLaw
import Derived.Laws.OwnMore
import Derived.Laws.CopyOwn
import Derived.Laws.Tables
import Derived.BigRegion
import Derived.Maps.AppendAt
import Derived.Test.YtojcgajjnmjjpaaDoorL04

namespace Go.Proofs.YtojcgajjnmjjpaaDoor
set_option maxRecDepth 100000
open Go.RowKit
set_option linter.unusedVariables false
set_option linter.unusedSimpArgs false

section
variable {w w' : World} {B g n c : Nat} {s0 s1 s2 s3 : Sl} {m : V4} {zs' : List Int}
end
theorem idxT_0 (w0 w1 w2 w3 w4 w5 w6 w7 w8 w9 w10 w11:Value) (W:World):(Instr.index 58 (.agg #[w0,w1,w2,w3,w4,w5,w6,w7,w8,w9,w10,w11]) (.int .i64 0)).run Tryd.prog W=.ok (.agg #[w0,w1,w2,w3]) W:=by kernel_rfl
theorem idxT_1 (w0 w1 w2 w3 w4 w5 w6 w7 w8 w9 w10 w11:Value) (W:World):(Instr.index 58 (.agg #[w0,w1,w2,w3,w4,w5,w6,w7,w8,w9,w10,w11]) (.int .i64 1)).run Tryd.prog W=.ok (.agg #[w4,w5,w6,w7]) W:=by kernel_rfl
theorem idxT_2 (w0 w1 w2 w3 w4 w5 w6 w7 w8 w9 w10 w11:Value) (W:World):(Instr.index 58 (.agg #[w0,w1,w2,w3,w4,w5,w6,w7,w8,w9,w10,w11]) (.int .i64 2)).run Tryd.prog W=.ok (.agg #[w8,w9,w10,w11]) W:=by kernel_rfl

end Go.Proofs.YtojcgajjnmjjpaaDoor
