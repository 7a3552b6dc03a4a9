/-
  Joined: NweE.
-/
import Derived.Test.YthlcdhddickdiaaDoorE37
import Derived.Test.YthlcdhddickdiaaDoorE42
import Derived.Test.YthlcdhddickdiaaDoorE50
import Derived.Test.YthlcdhddickdiaaDoorE51

namespace Go.Proofs.YthlcdhddickdiaaDoor
set_option maxRecDepth 100000
set_option maxHeartbeats 16000000
open Go.RowKit

theorem fnExactNewEntries_walk (a0:Option Addr) (n0 c0:Nat) (z0:List E3) (a1:Option Addr) (n1 c1:Nat) (z1:List E3) (w:World) (h0:Ents w a0 n0 c0 z0) (h1:Ents w a1 n1 c1 z1) (hG:VmShape w) :
  Calls Tryd.prog 5 #[.agg #[.slice a0 n0 c0],.agg #[.slice a1 n1 c1]] w fun e w'=>e=.returned (.bool true)∧Below w.heap.size w w':=
 by
 have hf:∀ e ∈ nwA z0 z1,e.fits:=by
  unfold nwA
  split
  ·intro e he;exact h1.fits e (List.mem_filter.1 he).1
  ·intro e he;simp at he
 have hk:memOk (nwA z0 z1)=true:=by
  unfold nwA
  split
  ·rename_i h;exact newE_ok h.2
  ·exact memOk_nil
 exact fnExactNewEntries_of a0 n0 c0 z0 a1 n1 c1 z1 (nwA z0 z1) hf (memOk_cnt hk).1 (memOk_cnt hk).2 (nwC z0 z1) w h0 h1 hG
  (fun a n c a' n' c' w hE hE'=>specNewEntries_is a n c z0 a' n' c' z1 w hE hE')
  (fun a n c a' n' c' w hE hE' hV=>implNewEntries_is a n c z0 a' n' c' z1 w hE hE' hV)

theorem fnExactNewEntries_laid {W:World} (h:laidMetH Tryd.prog Rows.fnExactNewEntriesRow.laid W):VmShape W:=vmShape_of_laid rfl h
theorem fnExactNewEntries_door_met (os:Os) (args:Array Value):laidMetH Tryd.prog Rows.fnExactNewEntriesRow.laid ((World.doorLaid Tryd.prog 400 os).forCall (fun _ _=>0) ⟨#[],args,[]⟩).memory:=
 laidMetH_of_parts3 (fuel:=8) (laidMet_of_run' 8 (by kernel_rfl) (by kernel_rfl)) (by kernel_rfl) (by kernel_rfl)
end Go.Proofs.YthlcdhddickdiaaDoor
