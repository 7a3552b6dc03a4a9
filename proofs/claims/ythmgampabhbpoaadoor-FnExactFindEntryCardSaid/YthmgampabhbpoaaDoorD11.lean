/-
  Joined: Conv, Vm4.
-/
import Derived.Laws.BytesArg
import Derived.Deep.RegionLaw
import Derived.Laws.OwnMore
import Derived.Test.YthmgampabhbpoaaDoorD10

namespace Go.Proofs.YthmgampabhbpoaaDoor
set_option maxRecDepth 100000
set_option maxHeartbeats 16000000
open Go.RowKit

abbrev u8s (xs:List Int):List Value:=xs.map (Value.int .u8)

theorem conv_owned {w:World} {base n:Nat} {v:Value} {xs:List Int} (h:w.ownsRow base 5 1 v n (u8s xs)) :
  (convert 128 9 v).run Tryd.prog w=.ok (.string (strOfNums xs)) w:=by
 obtain ⟨hl,h2⟩:=h
 simp at hl
 rcases h2 with ⟨rfl,rfl⟩ | ⟨g,cap,cur,rfl,hg,hh,hn,hc,hs,ht⟩
 ·have:xs=[]:=by simpa using hl
  subst this
  exact run_convert_bytes_nil w 128 5 Tryd.underlying128 Tryd.underlying5 0 0 9 Tryd.underlying9
 ·refine run_convert_bytes_arg w 128 5 Tryd.underlying128 Tryd.underlying5 g 0 n cap xs hl (fun i hi=>?_) 9 Tryd.underlying9
  have hown:w.ownsRow base 5 1 (.slice (some ⟨g,0,none⟩) n cap) n (u8s xs):=⟨by simpa using hl,.inr ⟨g,cap,cur,rfl,hg,hh,hn,hc,hs,ht⟩⟩
  have:=hown.cellAt i (by omega)
  rw [Nat.zero_add,this]
  simp [List.getElem?_eq_getElem (show i<xs.length by omega)]


def allOf (m:V4):List Int:=((m.1++m.2.1)++m.2.2.1)++m.2.2.2
theorem allIn_parts {zs:List Int} {n high:Int} (h:allIn zs n high=true):(zs.length:Int)=n∧∀ z ∈ zs,0≤z∧z≤high:=by
 unfold allIn at h
 simp at h
 exact ⟨h.2,h.1⟩
theorem shape_parts {m:V4} (h:shapeOk m=true):m.1.length=3∧m.2.1.length=4∧m.2.2.1.length=2∧m.2.2.2.length=6∧∀ z ∈ allOf m,0≤z∧z≤9:=by
 unfold shapeOk at h
 simp only [Bool.and_eq_true] at h
 obtain ⟨h0,h1,h2,h3⟩:=h
 obtain ⟨l0,e0⟩:=allIn_parts h0
 obtain ⟨l1,e1⟩:=allIn_parts h1
 obtain ⟨l2,e2⟩:=allIn_parts h2
 obtain ⟨l3,e3⟩:=allIn_parts h3
 refine ⟨by omega,by omega,by omega,by omega,fun z hz=>?_⟩
 unfold allOf at hz
 simp only [List.mem_append] at hz
 rcases hz with ((hz | hz) | hz) | hz
 ·have:=e0 z hz;omega
 ·exact e1 z hz
 ·have:=e2 z hz;omega
 ·exact e3 z hz
end Go.Proofs.YthmgampabhbpoaaDoor
