/-
  Joined: RunPl, RunQ.
-/
import Derived.Test.YtfpopbbmnbehiaaDoorA22

namespace Go.Proofs.YtfpopbbmnbehiaaDoor
set_option maxRecDepth 100000
set_option maxHeartbeats 16000000
open Go.RowKit
set_option linter.unusedVariables false

def haltM (rows:List (List I3)) (m:V4) (k:Int):Int:=
 if 0≤k∧k≤2 then (if doneM rows m k.toNat then 10 else if canM rows m k.toNat then 0 else 11) else 4
def goM (rows:List (List I3)) (m:V4) (k:Int):V4 × Int:=stepM m (insM rows m k.toNat) k.toNat
theorem halt_can {rows:List (List I3)} {m:V4} {k:Int} (h:haltM rows m k=0):0≤k∧k≤2∧doneM rows m k.toNat=false∧canM rows m k.toNat=true:=by
 unfold haltM at h
 split at h
 ·rename_i hk
  cases hd:doneM rows m k.toNat
  ·cases hc:canM rows m k.toNat
   ·rw [hd,hc] at h;simp at h
   ·exact ⟨hk.1,hk.2,rfl,rfl⟩
  ·rw [hd] at h;simp at h
 ·cases h


theorem goM_shape {rows:List (List I3)} {m:V4} {k:Int} (hp:progOk rows=true) (hs:shapeOk m=true) (hz:haltM rows m k=0):shapeOk (goM rows m k).1=true:=by
 obtain ⟨h0,h2,hd,hc⟩:=halt_can hz
 exact shape_step hp hs (by omega) hd
end Go.Proofs.YtfpopbbmnbehiaaDoor
