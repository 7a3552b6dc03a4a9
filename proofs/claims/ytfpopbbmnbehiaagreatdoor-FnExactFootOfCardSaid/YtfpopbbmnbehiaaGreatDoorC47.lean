/-
  Joined: FulQ, FulD.
-/
import Derived.Test.YtfpopbbmnbehiaaGreatDoorC06
import Derived.Test.YtfpopbbmnbehiaaGreatDoorC34
import Derived.Test.YtfpopbbmnbehiaaGreatDoorC46

namespace Go.Proofs.YtfpopbbmnbehiaaGreatDoor
set_option maxRecDepth 100000
set_option maxHeartbeats 16000000
set_option linter.unusedVariables false

def nxM (rows:List (List I3)) (m:V4):List (Int × V4):=(enabM rows m 3).map fun k=>(k,(goM rows m k).1)
theorem nxM_mem {rows:List (List I3)} {m:V4} {t:Int × V4} (h:t ∈ nxM rows m):haltM rows m t.1=0∧t.2=(goM rows m t.1).1:=by
 unfold nxM at h
 obtain ⟨k,hk,rfl⟩:=List.mem_map.1 h
 obtain ⟨i,hi,hie⟩:=List.getElem_of_mem hk
 obtain ⟨k',e,h3,hc⟩:=enab_at hi
 have e2:(enabM rows m 3).getD i 0=k:=by simp [List.getD,hi,hie]
 rw [e2] at e
 subst e
 exact ⟨halt_go h3 hc,rfl⟩
theorem nxM_shape {rows:List (List I3)} {m:V4} (hp:progOk rows=true) (hs:shapeOk m=true) {t:Int × V4} (h:t ∈ nxM rows m):shapeOk t.2=true:=by
 obtain ⟨h1,h2⟩:=nxM_mem h
 rw [h2]
 exact goM_shape hp hs h1
def fullS (rows:List (List I3)):List (Rec6 V4):=srch (nxM rows) 2000 0 [(zeroV,0,0)]
def Shaped (S:List (Rec6 V4)):Prop:=∀ r ∈ S,shapeOk r.1=true
theorem putS_shaped {i:Nat} {S:List (Rec6 V4)} {t:Int × V4} (h:Shaped S) (ht:shapeOk t.2=true):Shaped (putS i S t):=by
 unfold putS
 split
 ·exact h
 ·intro r hr
  rcases List.mem_append.1 hr with hr | hr
  ·exact h r hr
  ·simp at hr
   subst hr
   exact ht
theorem onS_shaped {i:Nat}:∀ (ts:List (Int × V4)) (S:List (Rec6 V4)),Shaped S→(∀ t ∈ ts,shapeOk t.2=true)→Shaped (onS i S ts)
 | [],S,h,_=>h
 | t::ts,S,h,ht=>onS_shaped ts _ (putS_shaped h (ht t (by simp))) (fun u hu=>ht u (by simp [hu]))
theorem srch_shaped {rows:List (List I3)} (hp:progOk rows=true):∀ (f i:Nat) (S:List (Rec6 V4)),Shaped S→Shaped (srch (nxM rows) f i S)
 | 0,_,S,h=>h
 | f+1,i,S,h=>by
  unfold srch
  split
  ·exact h
  ·rename_i r hr
   exact srch_shaped hp f (i+1) _ (onS_shaped _ S h (fun t ht=>nxM_shape hp (h r (List.mem_of_getElem? hr)) ht))
theorem fullS_shaped {rows:List (List I3)} (hp:progOk rows=true):Shaped (fullS rows):=srch_shaped hp _ _ _ (fun r hr=>by simp at hr;subst hr;exact zero_shape)
theorem fullS_head (rows:List (List I3)):(fullS rows)[0]?=some (zeroV,0,0):=by
 obtain ⟨r,hr⟩:=srch_pre (nxM rows) 2000 0 [(zeroV,0,0)]
 unfold fullS
 rw [← hr]
 rfl
theorem fullS_closed {rows:List (List I3)} (h:(fullS rows).length≤2000):∀ r ∈ fullS rows,∀ t ∈ nxM rows r.1,t.2 ∈ (fullS rows).map (·.1):=
 srch_closed 2000 0 _ (fun j r hj=>by omega) (by omega) (by unfold fullS at h;omega)


def capN (n:Nat):Nat:=Nat.min n 1000000
def cntF (rows:List (List I3)):Nat→V4→Nat
 | 0,_=>1
 | f+1,m=>if enabM rows m 3=[] then 1 else capN ((enabM rows m 3).map fun k=>cntF rows f (goM rows m k).1).sum
def leftN (rows:List (List I3)) (m:V4):Nat:=remM rows m 0+remM rows m 1+remM rows m 2
def cntM (rows:List (List I3)) (m:V4):Nat:=cntF rows (leftN rows m) m
theorem left_step {rows:List (List I3)} {m:V4} (hp:progOk rows=true) (hs:shapeOk m=true) {k:Int} (h:haltM rows m k=0):leftN rows (goM rows m k).1+1≤leftN rows m:=by
 obtain ⟨h0,h2,hd,hc⟩:=halt_can h
 obtain ⟨q,rfl⟩:∃ q:Nat,k=q:=⟨k.toNat,by omega⟩
 rw [Int.toNat_natCast] at hd
 obtain ⟨r1,r2⟩:=rem_step hp hs (show q<3 by omega) hd
 unfold leftN
 have hq:q=0∨q=1∨q=2:=by omega
 rcases hq with rfl | rfl | rfl
 ·have a:=r2 1 (by omega);have b:=r2 2 (by omega);omega
 ·have a:=r2 0 (by omega);have b:=r2 2 (by omega);omega
 ·have a:=r2 0 (by omega);have b:=r2 1 (by omega);omega
theorem enab_halt {rows:List (List I3)} {m:V4} {k:Int} (h:k ∈ enabM rows m 3):haltM rows m k=0:=(nxM_mem (t:=(k,(goM rows m k).1)) (List.mem_map.2 ⟨k,h,rfl⟩)).1
end Go.Proofs.YtfpopbbmnbehiaaGreatDoor
