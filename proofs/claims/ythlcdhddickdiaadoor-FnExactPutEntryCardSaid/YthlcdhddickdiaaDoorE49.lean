/-
  Joined: PteE.
-/
import Derived.Test.YthlcdhddickdiaaDoorE37
import Derived.Test.YthlcdhddickdiaaDoorE38
import Derived.Test.YthlcdhddickdiaaDoorE42
import Derived.Test.YthlcdhddickdiaaDoorE48

namespace Go.Proofs.YthlcdhddickdiaaDoor
set_option maxRecDepth 100000
set_option maxHeartbeats 16000000
open Go.RowKit

theorem fnExactPutEntry_walk (a0:Option Addr) (n0 c0:Nat) (z0:List E3) (e1:E3) (s1:Sl2) (w:World) (h0:Ents w a0 n0 c0 z0) (h1:Emem w s1 e1) (hG:VmShape w) :
  Calls Tryd.prog 3 #[.agg #[.slice a0 n0 c0],entV e1.1 s1] w fun e w'=>e=.returned (.bool true)∧Below w.heap.size w w':=
 by
 have hk:memOk (ptM z0 e1)=true:=by
  unfold ptM
  split
  ·rename_i h
   split
   ·exact h.1
   ·rename_i h2
    exact putE_ok h.1 h.2 (by cases hi:isE z0 e1.1<;>simp_all<;>(have:=memOk_len h.1;omega))
  ·exact memOk_nil
 have hf:∀ e ∈ ptM z0 e1,e.fits:=by
  intro x hx
  unfold ptM at hx
  split at hx
  ·split at hx
   ·exact h0.fits x hx
   ·unfold putE at hx
    simp only [List.mem_append,List.mem_singleton] at hx
    rcases hx with (hx | rfl) | hx
    ·exact h0.fits x (List.mem_of_mem_take hx)
    ·exact h1.fits
    ·exact h0.fits x (List.mem_of_mem_drop hx)
  ·simp at hx
 exact fnExactPutEntry_of a0 n0 c0 z0 e1 s1 (ptM z0 e1) hf (memOk_cnt hk).1 (memOk_cnt hk).2 (ptC z0 e1) w h0 h1 hG
  (fun a n c s w hE hn hM=>specPutEntry_is a n c z0 e1 s w hE hn hM)
  (fun a n c s w hE hn hM hV=>implPutEntry_is a n c z0 e1 s w hE hM hV)

theorem fnExactPutEntry_laid {W:World} (h:laidMetH Tryd.prog Rows.fnExactPutEntryRow.laid W):VmShape W:=vmShape_of_laid rfl h
theorem fnExactPutEntry_door_met (os:Os) (args:Array Value):laidMetH Tryd.prog Rows.fnExactPutEntryRow.laid ((World.doorLaid Tryd.prog 400 os).forCall (fun _ _=>0) ⟨#[],args,[]⟩).memory:=
 laidMetH_of_parts3 (fuel:=8) (laidMet_of_run' 8 (by kernel_rfl) (by kernel_rfl)) (by kernel_rfl) (by kernel_rfl)
end Go.Proofs.YthlcdhddickdiaaDoor
