/-
  Joined: NrmP, NrmQ.
-/
import Derived.Test.YtifoggpohlegmaaGreatDoorW18

namespace Go.Proofs.YtifoggpohlegmaaGreatDoor
set_option maxRecDepth 100000
set_option maxHeartbeats 16000000
set_option linter.unusedVariables false

def bestS (ok:Nat→Bool) (th:Nat→Nat):Nat→Option Nat
 | 0=>none
 | n+1=>if ok n then (match bestS ok th n with | none=>some n | some b=>if th n<th b then some n else some b) else bestS ok th n
def allU (B:Nat→Nat→Bool) (used:Nat→Bool) (k:Nat):Nat→Bool
 | 0=>true
 | n+1=>allU B used k n && (used n || !B n k)
def okU (B:Nat→Nat→Bool) (n:Nat) (used:Nat→Bool) (k:Nat):Bool:=!used k && allU B used k n
def stS (B:Nat→Nat→Bool) (th:Nat→Nat) (n:Nat):Nat→(Nat→Bool) × List Nat
 | 0=>(fun _=>false,[])
 | s+1=>match bestS (okU B n (stS B th n s).1) th n with
  | none=>stS B th n s
  | some b=>(fun i=>(stS B th n s).1 i || i == b,(stS B th n s).2++[th b])


theorem depM_symm (x y:I4):depM x y=depM y x:=by
 unfold depM
 by_cases h1:x.1=y.1
 ·simp [h1]
 ·have h1':¬ y.1=x.1:=fun e=>h1 e.symm
  by_cases h2:x.2.2.2=y.2.2.2
  ·simp only [h1,h1',h2,decide_false,Bool.false_or,decide_true,Bool.and_true]
   rw [Bool.and_comm (decide (x.2.2.1=1))]
  ·have h2':¬ y.2.2.2=x.2.2.2:=fun e=>h2 e.symm
   simp [h1,h1',h2,h2']
def Sw1 (es es':List I4):Prop:=∃ a x y b,es=a++x::y::b∧es'=a++y::x::b∧depM x y=false
inductive Sw:List I4→List I4→Prop
 | refl (es:List I4):Sw es es
 | step {es es' es'':List I4}:Sw es es'→Sw1 es' es''→Sw es es''
theorem Sw1.symm {es es':List I4} (h:Sw1 es es'):Sw1 es' es:=by
 obtain ⟨a,x,y,b,h1,h2,h3⟩:=h
 exact ⟨a,y,x,b,h2,h1,by rw [depM_symm];exact h3⟩
theorem Sw.trans {a b c:List I4} (h:Sw a b) (g:Sw b c):Sw a c:=by
 induction g with
 | refl=>exact h
 | step _ s ih=>exact .step ih s
theorem Sw.symm {a b:List I4} (h:Sw a b):Sw b a:=by
 induction h with
 | refl=>exact .refl _
 | step _ s ih=>exact (Sw.step (.refl _) s.symm).trans ih
end Go.Proofs.YtifoggpohlegmaaGreatDoor
