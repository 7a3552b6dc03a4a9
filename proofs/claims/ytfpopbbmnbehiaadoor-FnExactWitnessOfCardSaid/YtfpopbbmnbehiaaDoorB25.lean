/-
  Joined: RpP, ProgL.
-/
import Derived.Test.YtfpopbbmnbehiaaDoorB05
import Derived.Test.YtfpopbbmnbehiaaDoorB24

namespace Go.Proofs.YtfpopbbmnbehiaaDoor
set_option maxRecDepth 100000
set_option maxHeartbeats 16000000
open Go.RowKit

def StepOf (t:ByteArray):Option (Nat × I3)→Prop
 | none=>wordsT t=[]
 | some (k,x)=>∃ w0 rest,wordsT t=w0::rest∧IsDec w0 k∧k<3∧IsRead rest x
def BadLine (t:ByteArray):Prop:=∀ o,¬ StepOf t o
def AllSteps:List ByteArray→List (Option (Nat × I3))→Prop
 | [],[]=>True
 | t::ts,o::os=>StepOf t o∧AllSteps ts os
 | _,_=>False
def addTo (rows:List (List I3)):Option (Nat × I3)→List (List I3)
 | none=>rows
 | some (k,x)=>rows.set k (rows.getD k []++[x])
def rowsOf (os:List (Option (Nat × I3))):List (List I3):=os.foldl addTo [[],[],[]]
def IsRP (ts:List ByteArray) (rows:List (List I3)) (c:Int):Prop:=
 (c=0∧∃ os,AllSteps ts os∧rows=rowsOf os∧progOk rows=true) ∨
 (c=1∧rows=[]∧∃ os,AllSteps ts os∧progOk (rowsOf os)=false) ∨
 (c=3∧rows=[]∧∃ t ∈ ts,BadLine t)
theorem IsRP.ok {ts:List ByteArray} {r:List (List I3)} {c:Int} (h:IsRP ts r c):r=[]∨progOk r=true:=by
 rcases h with ⟨_,_,_,_,h⟩ | ⟨_,rfl,_⟩ | ⟨_,rfl,_⟩
 ·exact .inr h
 ·exact .inl rfl
 ·exact .inl rfl


theorem owns_lower {w:World} {B B' e s n:Nat} {v:Value} {cs:List Value} (h:w.ownsRow B e s v n cs) (hB:B'≤B):w.ownsRow B' e s v n cs:=by
 refine ⟨h.1,?_⟩
 rcases h.2 with h0 | ⟨g,cap,cur,hv,hg,r⟩
 ·exact .inl h0
 ·exact .inr ⟨g,cap,cur,hv,by omega,r⟩

end Go.Proofs.YtfpopbbmnbehiaaDoor
