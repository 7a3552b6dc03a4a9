/-
  Joined: MemE.
-/
import Derived.Test.YthlcdhddickdiaaDoorE40

namespace Go.Proofs.YthlcdhddickdiaaDoor
set_option maxRecDepth 100000
set_option maxHeartbeats 16000000
open Go.RowKit

theorem cntM_small {es:List E3} (h:memOk es=true):∀ j,j≤es.length→cntM es j≤j*200
 | 0,_=>by simp [cntM]
 | j+1,hj=>by
  have ih:=cntM_small h j (by omega)
  have hk:=memOk_ent h (i:=j) (by omega)
  have h1:=entOk_bugs hk
  have h2:=entOk_foot hk
  rw [cntM_step es j (by omega)]
  unfold cntE
  omega
theorem memOk_cnt {es:List E3} (h:memOk es=true):(∀ j,j≤es.length→cntM es j≤10000000)∧∀ t,t<es.length→(es.getD t e3d).2.1.length≤1048576∧(es.getD t e3d).2.2.length≤1048576:=by
 refine ⟨fun j hj=>?_,fun t ht=>?_⟩
 ·have:=cntM_small h j hj
  have:=memOk_len h
  omega
 ·have hk:=memOk_ent h ht
  have h1:=entOk_bugs hk
  have h2:=entOk_foot hk
  omega
theorem memOk_nil:memOk []=true:=by rfl
end Go.Proofs.YthlcdhddickdiaaDoor
