/-
  Joined: LkaE.
-/
import Derived.Test.YtojcgajjnmjjpaaDoorL35
import Derived.Test.YtojcgajjnmjjpaaDoorL44
import Derived.Test.YtojcgajjnmjjpaaDoorL45

namespace Go.Proofs.YtojcgajjnmjjpaaDoor
set_option maxRecDepth 100000
open Go.RowKit

theorem fnExactLooksAt_walk (a0:Option Addr) (n0 c0:Nat) (r0:List (List I3)) (s1:S4) (m1:V4) (w:World) (h0:Codes w a0 n0 c0 r0) (h1:Vmem w s1 m1) (hG:VmShape w) :
  Calls Tryd.prog 4 #[.agg #[.slice a0 n0 c0],s1.val] w fun e w'=>e=.returned (.bool true)∧Below w.heap.size w w':=
 fnExactLooksAt_of a0 n0 c0 r0 s1 m1 _ (lookA_len r0 m1) _ w h0 h1 hG
  (fun a n c s w hC h=>specLooksAt_is a n c r0 s m1 w hC h)
  (fun a n c s w hC h hG=>implLooksAt_is a n c r0 s m1 w hC h hG)

theorem fnExactLooksAt_laid {W:World} (h:laidMetH Tryd.prog Rows.fnExactLooksAtRow.laid W):VmShape W:=vmShape_of_laid rfl h
theorem fnExactLooksAt_door_met (os:Os) (args:Array Value):laidMetH Tryd.prog Rows.fnExactLooksAtRow.laid ((World.doorLaid Tryd.prog 400 os).forCall (fun _ _=>0) ⟨#[],args,[]⟩).memory:=
 laidMetH_of_parts3 (fuel:=8) (laidMet_of_run' 8 (by kernel_rfl) (by kernel_rfl)) (by kernel_rfl) (by kernel_rfl)
end Go.Proofs.YtojcgajjnmjjpaaDoor
