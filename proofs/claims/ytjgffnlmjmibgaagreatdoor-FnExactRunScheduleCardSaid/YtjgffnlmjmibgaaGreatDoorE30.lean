/-
  Joined: StepPl, RunPl.
-/
import Derived.Laws.CopyOwn
import Derived.Laws.Tables
import Derived.BigRegion
import Derived.Maps.AppendAt
import Derived.Test.YtjgffnlmjmibgaaGreatDoorE13
import Derived.Test.YtjgffnlmjmibgaaGreatDoorE26

namespace Go.Proofs.YtjgffnlmjmibgaaGreatDoor
set_option maxRecDepth 100000
set_option maxHeartbeats 16000000
open Go.RowKit
set_option linter.unusedVariables false

theorem mem_enab {rows:List (List I3)} {m:V4} {k:Nat}:∀ n,((k:Int) ∈ enabM rows m n)↔k<n∧canM rows m k=true
 | 0=>by simp [enabM]
 | n+1=>by
  have ih:=mem_enab (rows:=rows) (m:=m) (k:=k) n
  unfold enabM
  split
  ·rename_i h
   simp only [List.mem_append,List.mem_singleton,ih]
   constructor
   ·rintro (⟨h1,h2⟩ | h1)
    ·exact ⟨by omega,h2⟩
    ·obtain rfl:k=n:=by omega
     exact ⟨by omega,h⟩
   ·rintro ⟨h1,h2⟩
    by_cases e:k=n
    ·exact .inr (by omega)
    ·exact .inl ⟨by omega,h2⟩
  ·rename_i h
   rw [ih]
   constructor
   ·rintro ⟨h1,h2⟩
    exact ⟨by omega,h2⟩
   ·rintro ⟨h1,h2⟩
    refine ⟨?_,h2⟩
    by_cases e:k=n
    ·subst e
     exact absurd h2 h
    ·omega


def haltM (rows:List (List I3)) (m:V4) (k:Int):Int:=
 if 0≤k∧k≤2 then (if doneM rows m k.toNat then 10 else if canM rows m k.toNat then 0 else 11) else 4
def goM (rows:List (List I3)) (m:V4) (k:Int):V4 × Int:=stepM m (insM rows m k.toNat) k.toNat
def ownM (rows:List (List I3)) (m:V4) (k:Int):List I3:=if (goM rows m k).2=0 then [] else [((goM rows m k).2,k,m.1.getD k.toNat 0)]
def deadM (rows:List (List I3)) (m:V4):List I3:=if stuckM rows m then [(14,0,0)] else []
def foundM (rows:List (List I3)) (m:V4) (k:Int):List I3:=if stuckM rows (goM rows m k).1 then putB (ownM rows m k) (14,0,0) else ownM rows m k

def runI (rows:List (List I3)):V4→List I3→List Int→V4 × List I3 × Int
 | m,fs,[]=>(m,fs,0)
 | m,fs,k::ks=>if haltM rows m k=0 then runI rows (goM rows m k).1 (fs++ownM rows m k) ks else (m,fs,haltM rows m k)
def runS (rows:List (List I3)):V4→List I3→List Int→V4 × List I3 × Int
 | m,out,[]=>(m,out,0)
 | m,out,k::ks=>if haltM rows m k=0 then runS rows (goM rows m k).1 (mergeB out (foundM rows m k)) ks else (m,out,haltM rows m k)

theorem halt_can {rows:List (List I3)} {m:V4} {k:Int} (h:haltM rows m k=0):0≤k∧k≤2∧doneM rows m k.toNat=false∧canM rows m k.toNat=true:=by
 unfold haltM at h
 split at h
 ·rename_i hk
  cases hd:doneM rows m k.toNat
  ·cases hc:canM rows m k.toNat
   ·rw [hd,hc] at h;simp at h
   ·exact ⟨hk.1,hk.2,rfl,rfl⟩
  ·rw [hd] at h;simp at h
 ·cases h
theorem can_not_stuck {rows:List (List I3)} {m:V4} {k:Nat} (hk:k<3) (h:canM rows m k=true):stuckM rows m=false:=by
 have hm:(k:Int) ∈ enabM rows m 3:=(mem_enab 3).2 ⟨hk,h⟩
 unfold stuckM
 have hne:¬ (enabM rows m 3=[]):=fun e=>by rw [e] at hm;simp at hm
 simp [hne]
theorem mem_found {rows:List (List I3)} {m:V4} {k:Int} {x:I3}:x ∈ foundM rows m k↔x ∈ ownM rows m k∨x ∈ deadM rows (goM rows m k).1:=by
 unfold foundM deadM
 cases stuckM rows (goM rows m k).1
 ·simp
 ·simp only [if_true,mem_putB,List.mem_singleton]
theorem run_same {rows:List (List I3)}:∀ (ks:List Int) (m:V4) (fs out:List I3),out=mergeB fs (deadM rows m) →
  (runS rows m out ks).1=(runI rows m fs ks).1∧(runS rows m out ks).2.2=(runI rows m fs ks).2.2∧(runS rows m out ks).2.1=mergeB (runI rows m fs ks).2.1 (deadM rows (runI rows m fs ks).1)
 | [],m,fs,out,h=>⟨rfl,rfl,h⟩
 | k::ks,m,fs,out,h=>by
  by_cases hz:haltM rows m k=0
  ·obtain ⟨h0,h2,_,hc⟩:=halt_can hz
   have hst:=can_not_stuck (rows:=rows) (m:=m) (k:=k.toNat) (by omega) hc
   have hd:deadM rows m=[]:=by unfold deadM;rw [hst];rfl
   have e1:runS rows m out (k::ks)=runS rows (goM rows m k).1 (mergeB out (foundM rows m k)) ks:=by
    show (if haltM rows m k=0 then _ else _)=_
    rw [if_pos hz]
   have e2:runI rows m fs (k::ks)=runI rows (goM rows m k).1 (fs++ownM rows m k) ks:=by
    show (if haltM rows m k=0 then _ else _)=_
    rw [if_pos hz]
   rw [e1,e2]
   refine run_same ks _ _ _ ((mergeB_rises _ _).same (mergeB_rises _ _) fun x=>?_)
   rw [mem_mergeB,mem_mergeB,h,mem_mergeB,hd,mem_found,List.mem_append]
   simp only [List.not_mem_nil,or_false,or_assoc]
  ·have e1:runS rows m out (k::ks)=(m,out,haltM rows m k):=by
    show (if haltM rows m k=0 then _ else _)=_
    rw [if_neg hz]
   have e2:runI rows m fs (k::ks)=(m,fs,haltM rows m k):=by
    show (if haltM rows m k=0 then _ else _)=_
    rw [if_neg hz]
   rw [e1,e2]
   exact ⟨rfl,rfl,h⟩
theorem runI_len {rows:List (List I3)}:∀ (ks:List Int) (m:V4) (fs:List I3),(runI rows m fs ks).2.1.length≤fs.length+ks.length
 | [],m,fs=>by simp [runI]
 | k::ks,m,fs=>by
  have h1:(ownM rows m k).length≤1:=by unfold ownM;split<;>simp
  have h2:=runI_len (rows:=rows) ks (goM rows m k).1 (fs++ownM rows m k)
  unfold runI
  split
  ·rw [List.length_append] at h2
   simp only [List.length_cons]
   omega
  ·simp only [List.length_cons]
   omega
end Go.Proofs.YtjgffnlmjmibgaaGreatDoor
