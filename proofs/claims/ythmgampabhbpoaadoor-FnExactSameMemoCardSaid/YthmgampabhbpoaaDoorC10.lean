/-
  Joined: Parts, Vm4.
-/
import Derived.Deep.RegionLaw
import Derived.Laws.OwnMore
import Derived.Laws.BytesArg
import Derived.Test.YthmgampabhbpoaaDoorC08

namespace Go.Proofs.YthmgampabhbpoaaDoor
set_option maxRecDepth 100000
set_option maxHeartbeats 16000000
open Go.RowKit

def rowNums (xs:List I3):List Int:=xs.flatMap fun x=>[x.1,x.2.1,x.2.2]
theorem rowNums_length (xs:List I3):(rowNums xs).length=xs.length*3:=by
 induction xs with
 | nil=>rfl
 | cons x xs ih=>simp [rowNums] at *;omega
theorem rowNums_step {xs:List I3} {k:Nat} (hk:k<xs.length):rowNums (xs.take (k+1))=rowNums (xs.take k)++[(xs.getD k (0,0,0)).1,(xs.getD k (0,0,0)).2.1,(xs.getD k (0,0,0)).2.2]:=by
 unfold rowNums
 rw [List.take_succ_eq_append_getElem hk,List.flatMap_append]
 simp [List.getD,hk]


def allOf (m:V4):List Int:=((m.1++m.2.1)++m.2.2.1)++m.2.2.2
theorem allIn_parts {zs:List Int} {n high:Int} (h:allIn zs n high=true):(zs.length:Int)=n∧∀ z ∈ zs,0≤z∧z≤high:=by
 unfold allIn at h
 simp at h
 exact ⟨h.2,h.1⟩
theorem shape_parts {m:V4} (h:shapeOk m=true):m.1.length=3∧m.2.1.length=4∧m.2.2.1.length=2∧m.2.2.2.length=6∧∀ z ∈ allOf m,0≤z∧z≤9:=by
 unfold shapeOk at h
 simp only [Bool.and_eq_true] at h
 obtain ⟨h0,h1,h2,h3⟩:=h
 obtain ⟨l0,e0⟩:=allIn_parts h0
 obtain ⟨l1,e1⟩:=allIn_parts h1
 obtain ⟨l2,e2⟩:=allIn_parts h2
 obtain ⟨l3,e3⟩:=allIn_parts h3
 refine ⟨by omega,by omega,by omega,by omega,fun z hz=>?_⟩
 unfold allOf at hz
 simp only [List.mem_append] at hz
 rcases hz with ((hz | hz) | hz) | hz
 ·have:=e0 z hz;omega
 ·exact e1 z hz
 ·have:=e2 z hz;omega
 ·exact e3 z hz
end Go.Proofs.YthmgampabhbpoaaDoor
