/-
  Joined: FdeE.
-/
import Derived.Test.YthmgampabhbpoaaDoorD23
import Derived.Test.YthmgampabhbpoaaDoorD46
import Derived.Test.YthmgampabhbpoaaDoorD47

namespace Go.Proofs.YthmgampabhbpoaaDoor
set_option maxRecDepth 100000
set_option maxHeartbeats 16000000
open Go.RowKit

theorem fnExactFindEntry_walk (a0:Option Addr) (n0 c0:Nat) (z0:List E3) (key:ByteArray) (hk:key.size≤maxLen) (w:World) (h0:Ents w a0 n0 c0 z0) (hG:VmShape w) :
  Calls Tryd.prog 5 #[.agg #[.slice a0 n0 c0],.string key] w fun e w'=>e=.returned (.bool true)∧Below w.heap.size w w':=
 by
 have hf:(fdeE z0 key).fits∧(fdeE z0 key).2.1.length≤1048576∧(fdeE z0 key).2.2.length≤1048576:=by
  unfold fdeE
  split
  ·rename_i h
   have hp:plcE z0 key<z0.length:=by
    have:=h.2.2
    simp only [isE,Bool.and_eq_true,decide_eq_true_eq] at this
    exact this.1
   have hk:=memOk_ent h.2.1 hp
   have y1:=entOk_bugs hk
   have y2:=entOk_foot hk
   refine ⟨?_,by omega,by omega⟩
   rw [getD9 hp]
   exact h0.fits _ (List.getElem_mem _)
  ·exact ⟨⟨by show (0:Nat)≤maxLen;omega,by simp [e3d],by simp [e3d]⟩,by simp [e3d],by simp [e3d]⟩
 exact fnExactFindEntry_of a0 n0 c0 z0 key hk (fdeE z0 key) hf.1 hf.2.1 hf.2.2 (fdeC z0 key) w h0 hG
  (fun hs a n c w hE=>specFindEntry_is a n c z0 key w hE hs)
  (fun hs a n c w hE hV=>implFindEntry_is a n c z0 key w hE hs hV)

theorem fnExactFindEntry_laid {W:World} (h:laidMetH Tryd.prog Rows.fnExactFindEntryRow.laid W):VmShape W:=vmShape_of_laid rfl h
theorem fnExactFindEntry_door_met (os:Os) (args:Array Value):laidMetH Tryd.prog Rows.fnExactFindEntryRow.laid ((World.doorLaid Tryd.prog 400 os).forCall (fun _ _=>0) ⟨#[],args,[]⟩).memory:=
 laidMetH_of_parts3 (fuel:=8) (laidMet_of_run' 8 (by kernel_rfl) (by kernel_rfl)) (by kernel_rfl) (by kernel_rfl)
end Go.Proofs.YthmgampabhbpoaaDoor
