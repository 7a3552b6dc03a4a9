/-
  Joined: WitB, FrP.
-/
import Derived.Test.YtifoggpohlegmaaGreatDoorA34
import Derived.Test.YtifoggpohlegmaaGreatDoorA40

namespace Go.Proofs.YtifoggpohlegmaaGreatDoor
set_option maxRecDepth 100000
set_option maxHeartbeats 16000000
open Go.RowKit
set_option linter.unusedVariables false
set_option linter.unusedSimpArgs false

theorem runF_ok (rows:List (List I3)) (ks:List Int):(∀ x ∈ runF rows ks,okB x=true)∧(runF rows ks).length≤5000:=by
 unfold runF
 split
 ·simp
 ·split
  ·rename_i h1 h2
   have a:=runI_ok h2 ks zeroV [] zero_shape (by simp)
   have b:=runI_len (rows:=rows) ks zeroV []
   have c:=mergeB_len (runI rows zeroV [] ks).2.1 (deadM rows (runI rows zeroV [] ks).1)
   have d:(deadM rows (runI rows zeroV [] ks).1).length≤1:=by unfold deadM;split<;>simp
   refine ⟨mergeB_ok a.2 (deadM_ok _ _),?_⟩
   simp at b
   omega
  ·simp


theorem goes_run {rows:List (List I3)} {ks:List Int} {m:V4} (hp:progOk rows=true) (h:goesTo rows ks m) (hl:ks.length≤14):runZ rows ks=m∧runC rows ks=0∧shapeOk m=true:=by
 obtain ⟨h1,h2⟩:=h
 have h9:¬ 4096<ks.length:=by omega
 unfold runZ runC
 simp only [if_neg h9,if_pos hp]
 refine ⟨h2,h1,?_⟩
 rw [← h2]
 exact (runI_ok hp ks zeroV [] zero_shape (by simp)).1
theorem halt_step {rows:List (List I3)} {m:V4} {k:Int} (hp:progOk rows=true) (hs:shapeOk m=true) (hz:haltM rows m k=0):stepZ rows m k=(goM rows m k).1∧stepC rows m k=0:=by
 obtain ⟨h0,h2,hd,hc⟩:=halt_can hz
 have hk3:(0:Int)≤k∧k<3:=by omega
 unfold stepZ stepC goM
 simp only [hp,hs,Bool.and_self,if_true,hk3,and_self,hd,hc]
theorem getD_memF {xs:List I3} {k:Nat} (hk:k<xs.length):xs.getD k (0,0,0) ∈ xs:=by
 simp only [List.getD,List.getElem?_eq_getElem hk,Option.getD_some]
 exact List.getElem_mem hk
end Go.Proofs.YtifoggpohlegmaaGreatDoor
