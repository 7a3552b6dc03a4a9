/-
  Joined: NumP, ReadP, WordsP, RpP.
-/
import Derived.Lib.FieldsP
import Derived.Test.YtifoggpohlegmaaGreatDoorA13

namespace Go.Proofs.YtifoggpohlegmaaGreatDoor
set_option maxRecDepth 100000
set_option maxHeartbeats 16000000

def digVal (s:ByteArray):Nat→Nat
 | 0=>0
 | k+1=>10*digVal s k+(bt s k - 48)
def allDig (s:ByteArray) (k:Nat):Prop:=∀ i,i<k→48≤bt s i∧bt s i≤57
theorem digVal_lt {s:ByteArray}:∀ {k:Nat},allDig s k→digVal s k<10 ^ k
 | 0,_=>by simp [digVal]
 | k+1,h=>by
  have ih:=digVal_lt (k:=k) (fun i hi=>h i (by omega))
  have:=h k (by omega)
  rw [digVal,Nat.pow_succ]
  omega
theorem digVal_small {s:ByteArray} {k:Nat} (h:allDig s k) (hk:k≤18):digVal s k<1000000000000000000:=by
 have h1:=digVal_lt h
 have h2:10 ^ k≤10 ^ 18:=Nat.pow_le_pow_right (by omega) hk
 have:(10:Nat) ^ 18=1000000000000000000:=by decide
 omega
def IsDec (s:ByteArray) (n:Nat):Prop:=1≤s.size∧s.size≤18∧¬ (1<s.size∧bt s 0=48)∧allDig s s.size∧n=digVal s s.size
theorem IsDec.only {s:ByteArray} {n m:Nat} (h:IsDec s n) (g:IsDec s m):n=m:=h.2.2.2.2.trans g.2.2.2.2.symm
theorem IsDec.lt {s:ByteArray} {n:Nat} (h:IsDec s n):n<1000000000000000000:=by
 obtain ⟨_,h2,_,h4,rfl⟩:=h
 exact digVal_small h4 h2

open Go.RowKit

def opK (t:ByteArray):Nat:=if t=opB 1 then 1 else if t=opB 2 then 2 else if t=opB 3 then 3 else if t=opB 4 then 4 else if t=opB 5 then 5 else if t=opB 6 then 6 else if t=opB 7 then 7 else if t=opB 8 then 8 else 0

def IsRead (ws:List ByteArray) (x:I3):Prop:=
 (∃ t0 t1 a,ws=[t0,t1]∧(opK t0=5∨opK t0=6)∧IsDec t1 a∧x=((opK t0:Int),(a:Int),0)∧okI x=true) ∨
 (∃ t0 t1 t2 a b,ws=[t0,t1,t2]∧¬ (opK t0=5∨opK t0=6)∧opK t0≠0∧IsDec t1 a∧IsDec t2 b∧x=((opK t0:Int),(a:Int),(b:Int))∧okI x=true)
theorem IsRead.only {ws:List ByteArray} {x y:I3} (h:IsRead ws x) (g:IsRead ws y):x=y:=by
 rcases h with ⟨t0,t1,a,rfl,_,ha,rfl,_⟩ | ⟨t0,t1,t2,a,b,rfl,_,_,ha,hb,rfl,_⟩<;>rcases g with ⟨s0,s1,c,e,_,hc,rfl,_⟩ | ⟨s0,s1,s2,c,d,e,_,_,hc,hd,rfl,_⟩
 ·cases e
  rw [ha.only hc]
 ·cases e
 ·cases e
 ·cases e
  rw [ha.only hc,hb.only hd]
theorem IsRead.ok {ws:List ByteArray} {x:I3} (h:IsRead ws x):okI x=true:=by
 rcases h with ⟨_,_,_,_,_,_,_,h⟩ | ⟨_,_,_,_,_,_,_,_,_,_,_,h⟩<;>exact h

open Go.Lib

def isBl (r:Nat):Bool:=r == 32

def wordsT (s:ByteArray):List ByteArray:=goFieldsP isBl s


def StepOf (t:ByteArray):Option (Nat × I3)→Prop
 | none=>wordsT t=[]
 | some (k,x)=>∃ w0 rest,wordsT t=w0::rest∧IsDec w0 k∧k<3∧IsRead rest x
def BadLine (t:ByteArray):Prop:=∀ o,¬ StepOf t o
theorem StepOf.only {t:ByteArray} {o o':Option (Nat × I3)} (h:StepOf t o) (g:StepOf t o'):o=o':=by
 match o,o',h,g with
 | none,none,_,_=>rfl
 | none,some (k,x),h,⟨w0,rest,e,_⟩ =>
  have h':wordsT t=[]:=h
  rw [h'] at e;cases e
 | some (k,x),none,⟨w0,rest,e,_⟩,h =>
  have h':wordsT t=[]:=h
  rw [h'] at e;cases e
 | some (k,x),some (k',x'),⟨w0,rest,e,h1,_,h2⟩,⟨w0',rest',e',g1,_,g2⟩ =>
  rw [e] at e'
  cases e'
  rw [h1.only g1,h2.only g2]
def AllSteps:List ByteArray→List (Option (Nat × I3))→Prop
 | [],[]=>True
 | t::ts,o::os=>StepOf t o∧AllSteps ts os
 | _,_=>False
theorem AllSteps.only:∀ {ts:List ByteArray} {os os':List (Option (Nat × I3))},AllSteps ts os→AllSteps ts os'→os=os'
 | [],[],[],_,_=>rfl
 | [],[],_::_,_,h=>h.elim
 | [],_::_,_,h,_=>h.elim
 | _::_,[],_,h,_=>h.elim
 | _::_,_::_,[],_,h=>h.elim
 | _::_,_::_,_::_,h,g=>by rw [h.1.only g.1,AllSteps.only h.2 g.2]
theorem AllSteps.good:∀ {ts:List ByteArray} {os:List (Option (Nat × I3))},AllSteps ts os→∀ t ∈ ts,¬ BadLine t
 | [],[],_,_,ht=>by cases ht
 | [],_::_,h,_,_=>h.elim
 | _::_,[],h,_,_=>h.elim
 | s::ts,o::os,h,t,ht=>by
  rcases List.mem_cons.1 ht with rfl | ht
  ·exact fun hb=>hb o h.1
  ·exact AllSteps.good h.2 t ht

def addTo (rows:List (List I3)):Option (Nat × I3)→List (List I3)
 | none=>rows
 | some (k,x)=>rows.set k (rows.getD k []++[x])
def rowsOf (os:List (Option (Nat × I3))):List (List I3):=os.foldl addTo [[],[],[]]
def IsRP (ts:List ByteArray) (rows:List (List I3)) (c:Int):Prop:=
 (c=0∧∃ os,AllSteps ts os∧rows=rowsOf os∧progOk rows=true) ∨
 (c=1∧rows=[]∧∃ os,AllSteps ts os∧progOk (rowsOf os)=false) ∨
 (c=3∧rows=[]∧∃ t ∈ ts,BadLine t)
theorem IsRP.same {ts:List ByteArray} {r r':List (List I3)} {c c':Int} (h:IsRP ts r c) (g:IsRP ts r' c'):r=r'∧c=c':=by
 rcases h with ⟨rfl,os,h1,rfl,h3⟩ | ⟨rfl,rfl,os,h1,h3⟩ | ⟨rfl,rfl,t,ht,hb⟩<;>rcases g with ⟨rfl,os',g1,rfl,g3⟩ | ⟨rfl,rfl,os',g1,g3⟩ | ⟨rfl,rfl,t',ht',hb'⟩
 ·rw [h1.only g1];exact ⟨rfl,rfl⟩
 ·rw [h1.only g1,g3] at h3;cases h3
 ·exact absurd hb' (h1.good t' ht')
 ·rw [h1.only g1,g3] at h3;cases h3
 ·exact ⟨rfl,rfl⟩
 ·exact absurd hb' (h1.good t' ht')
 ·exact absurd hb (g1.good t ht)
 ·exact absurd hb (g1.good t ht)
 ·exact ⟨rfl,rfl⟩
theorem IsRP.ok {ts:List ByteArray} {r:List (List I3)} {c:Int} (h:IsRP ts r c):r=[]∨progOk r=true:=by
 rcases h with ⟨_,_,_,_,h⟩ | ⟨_,rfl,_⟩ | ⟨_,rfl,_⟩
 ·exact .inr h
 ·exact .inl rfl
 ·exact .inl rfl
theorem okI_fits {x:I3} (h:okI x=true):I3.fits x:=by
 obtain ⟨h0,h1,h2⟩:=okI_small h
 have wf:∀ z:Int,0≤z∧z≤9→(Lit.int .i64 z).wf=true:=fun z hz=>by
  simp [Lit.wf,IntKind.min,IntKind.max,IntKind.signed,IntKind.bits]
  omega
 exact ⟨wf _ h0,wf _ h1,wf _ h2⟩
end Go.Proofs.YtifoggpohlegmaaGreatDoor
