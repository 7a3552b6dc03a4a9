/-
  Joined: OrdP, NrmQ.
-/
import Derived.Test.YtfpopbbmnbehiaaDoorB19

namespace Go.Proofs.YtfpopbbmnbehiaaDoor
set_option maxRecDepth 100000
set_option maxHeartbeats 16000000
set_option linter.unusedVariables false

inductive Bef (D:Nat→Nat→Bool):Nat→Nat→Prop
 | one {i k:Nat}:i<k→D i k=true→Bef D i k
 | more {i j k:Nat}:Bef D i j→j<k→D j k=true→Bef D i k
theorem Bef.lt {D:Nat→Nat→Bool} {i k:Nat} (h:Bef D i k):i<k:=by
 induction h with
 | one h _=>exact h
 | more _ h _ ih=>omega
theorem Bef.trans {D:Nat→Nat→Bool} {i j k:Nat} (h:Bef D i j) (g:Bef D j k):Bef D i k:=by
 induction g with
 | one h1 h2=>exact .more h h1 h2
 | more _ h1 h2 ih=>exact .more ih h1 h2


theorem depM_symm (x y:I4):depM x y=depM y x:=by
 unfold depM
 by_cases h1:x.1=y.1
 ·simp [h1]
 ·have h1':¬ y.1=x.1:=fun e=>h1 e.symm
  by_cases h2:x.2.2.2=y.2.2.2
  ·simp only [h1,h1',h2,decide_false,Bool.false_or,decide_true,Bool.and_true]
   rw [Bool.and_comm (decide (x.2.2.1=1))]
  ·have h2':¬ y.2.2.2=x.2.2.2:=fun e=>h2 e.symm
   simp [h1,h1',h2,h2']
def Sw1 (es es':List I4):Prop:=∃ a x y b,es=a++x::y::b∧es'=a++y::x::b∧depM x y=false
inductive Sw:List I4→List I4→Prop
 | refl (es:List I4):Sw es es
 | step {es es' es'':List I4}:Sw es es'→Sw1 es' es''→Sw es es''
theorem Sw1.symm {es es':List I4} (h:Sw1 es es'):Sw1 es' es:=by
 obtain ⟨a,x,y,b,h1,h2,h3⟩:=h
 exact ⟨a,y,x,b,h2,h1,by rw [depM_symm];exact h3⟩
theorem Sw.trans {a b c:List I4} (h:Sw a b) (g:Sw b c):Sw a c:=by
 induction g with
 | refl=>exact h
 | step _ s ih=>exact .step ih s
theorem Sw.symm {a b:List I4} (h:Sw a b):Sw b a:=by
 induction h with
 | refl=>exact .refl _
 | step _ s ih=>exact (Sw.step (.refl _) s.symm).trans ih
end Go.Proofs.YtfpopbbmnbehiaaDoor
