/-
  Joined: WordsP, RpP.
-/
import Derived.Lib.FieldsP
import Derived.Test.YtfpopbbmnbehiaaGreatDoorC07

namespace Go.Proofs.YtfpopbbmnbehiaaGreatDoor
set_option maxRecDepth 100000
set_option maxHeartbeats 16000000
open Go.Lib

def isBl (r:Nat):Bool:=r == 32

def wordsT (s:ByteArray):List ByteArray:=goFieldsP isBl s

open Go.RowKit

def StepOf (t:ByteArray):Option (Nat × I3)→Prop
 | none=>wordsT t=[]
 | some (k,x)=>∃ w0 rest,wordsT t=w0::rest∧IsDec w0 k∧k<3∧IsRead rest x
def BadLine (t:ByteArray):Prop:=∀ o,¬ StepOf t o
theorem StepOf.only {t:ByteArray} {o o':Option (Nat × I3)} (h:StepOf t o) (g:StepOf t o'):o=o':=by
 match o,o',h,g with
 | none,none,_,_=>rfl
 | none,some (k,x),h,⟨w0,rest,e,_⟩ =>
  have h':wordsT t=[]:=h
  rw [h'] at e;cases e
 | some (k,x),none,⟨w0,rest,e,_⟩,h =>
  have h':wordsT t=[]:=h
  rw [h'] at e;cases e
 | some (k,x),some (k',x'),⟨w0,rest,e,h1,_,h2⟩,⟨w0',rest',e',g1,_,g2⟩ =>
  rw [e] at e'
  cases e'
  rw [h1.only g1,h2.only g2]
def AllSteps:List ByteArray→List (Option (Nat × I3))→Prop
 | [],[]=>True
 | t::ts,o::os=>StepOf t o∧AllSteps ts os
 | _,_=>False
theorem AllSteps.only:∀ {ts:List ByteArray} {os os':List (Option (Nat × I3))},AllSteps ts os→AllSteps ts os'→os=os'
 | [],[],[],_,_=>rfl
 | [],[],_::_,_,h=>h.elim
 | [],_::_,_,h,_=>h.elim
 | _::_,[],_,h,_=>h.elim
 | _::_,_::_,[],_,h=>h.elim
 | _::_,_::_,_::_,h,g=>by rw [h.1.only g.1,AllSteps.only h.2 g.2]
theorem AllSteps.good:∀ {ts:List ByteArray} {os:List (Option (Nat × I3))},AllSteps ts os→∀ t ∈ ts,¬ BadLine t
 | [],[],_,_,ht=>by cases ht
 | [],_::_,h,_,_=>h.elim
 | _::_,[],h,_,_=>h.elim
 | s::ts,o::os,h,t,ht=>by
  rcases List.mem_cons.1 ht with rfl | ht
  ·exact fun hb=>hb o h.1
  ·exact AllSteps.good h.2 t ht

def addTo (rows:List (List I3)):Option (Nat × I3)→List (List I3)
 | none=>rows
 | some (k,x)=>rows.set k (rows.getD k []++[x])
def rowsOf (os:List (Option (Nat × I3))):List (List I3):=os.foldl addTo [[],[],[]]
def IsRP (ts:List ByteArray) (rows:List (List I3)) (c:Int):Prop:=
 (c=0∧∃ os,AllSteps ts os∧rows=rowsOf os∧progOk rows=true) ∨
 (c=1∧rows=[]∧∃ os,AllSteps ts os∧progOk (rowsOf os)=false) ∨
 (c=3∧rows=[]∧∃ t ∈ ts,BadLine t)
theorem IsRP.same {ts:List ByteArray} {r r':List (List I3)} {c c':Int} (h:IsRP ts r c) (g:IsRP ts r' c'):r=r'∧c=c':=by
 rcases h with ⟨rfl,os,h1,rfl,h3⟩ | ⟨rfl,rfl,os,h1,h3⟩ | ⟨rfl,rfl,t,ht,hb⟩<;>rcases g with ⟨rfl,os',g1,rfl,g3⟩ | ⟨rfl,rfl,os',g1,g3⟩ | ⟨rfl,rfl,t',ht',hb'⟩
 ·rw [h1.only g1];exact ⟨rfl,rfl⟩
 ·rw [h1.only g1,g3] at h3;cases h3
 ·exact absurd hb' (h1.good t' ht')
 ·rw [h1.only g1,g3] at h3;cases h3
 ·exact ⟨rfl,rfl⟩
 ·exact absurd hb' (h1.good t' ht')
 ·exact absurd hb (g1.good t ht)
 ·exact absurd hb (g1.good t ht)
 ·exact ⟨rfl,rfl⟩
theorem IsRP.ok {ts:List ByteArray} {r:List (List I3)} {c:Int} (h:IsRP ts r c):r=[]∨progOk r=true:=by
 rcases h with ⟨_,_,_,_,h⟩ | ⟨_,rfl,_⟩ | ⟨_,rfl,_⟩
 ·exact .inr h
 ·exact .inl rfl
 ·exact .inl rfl
end Go.Proofs.YtfpopbbmnbehiaaGreatDoor
