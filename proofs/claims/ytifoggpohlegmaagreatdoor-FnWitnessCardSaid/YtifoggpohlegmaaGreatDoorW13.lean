/-
  Joined: Take, NumP, ReadP, WordsP.
-/
import Derived.Laws.RangeString
import Derived.Laws.RangeAny
import Derived.Laws.Bits
import Derived.Lib.FieldsP
import Derived.Test.YtifoggpohlegmaaGreatDoorW12

namespace Go.Proofs.YtifoggpohlegmaaGreatDoor
set_option maxRecDepth 100000
set_option maxHeartbeats 16000000

def bt (s:ByteArray) (k:Nat):Nat:=if h:k<s.size then (s[k]'h).toNat else 0
def hv (s:ByteArray) (p k:Nat):Nat→Nat
 | 0=>0
 | j+1=>hv s p k j*128+bt s (p+k - 1 - j) % 128


def digVal (s:ByteArray):Nat→Nat
 | 0=>0
 | k+1=>10*digVal s k+(bt s k - 48)
def allDig (s:ByteArray) (k:Nat):Prop:=∀ i,i<k→48≤bt s i∧bt s i≤57
theorem digVal_lt {s:ByteArray}:∀ {k:Nat},allDig s k→digVal s k<10 ^ k
 | 0,_=>by simp [digVal]
 | k+1,h=>by
  have ih:=digVal_lt (k:=k) (fun i hi=>h i (by omega))
  have:=h k (by omega)
  rw [digVal,Nat.pow_succ]
  omega
theorem digVal_small {s:ByteArray} {k:Nat} (h:allDig s k) (hk:k≤18):digVal s k<1000000000000000000:=by
 have h1:=digVal_lt h
 have h2:10 ^ k≤10 ^ 18:=Nat.pow_le_pow_right (by omega) hk
 have:(10:Nat) ^ 18=1000000000000000000:=by decide
 omega
def IsDec (s:ByteArray) (n:Nat):Prop:=1≤s.size∧s.size≤18∧¬ (1<s.size∧bt s 0=48)∧allDig s s.size∧n=digVal s s.size
theorem IsDec.lt {s:ByteArray} {n:Nat} (h:IsDec s n):n<1000000000000000000:=by
 obtain ⟨_,h2,_,h4,rfl⟩:=h
 exact digVal_small h4 h2

open Go.RowKit

def opK (t:ByteArray):Nat:=if t=opB 1 then 1 else if t=opB 2 then 2 else if t=opB 3 then 3 else if t=opB 4 then 4 else if t=opB 5 then 5 else if t=opB 6 then 6 else if t=opB 7 then 7 else if t=opB 8 then 8 else 0

def IsRead (ws:List ByteArray) (x:I3):Prop:=
 (∃ t0 t1 a,ws=[t0,t1]∧(opK t0=5∨opK t0=6)∧IsDec t1 a∧x=((opK t0:Int),(a:Int),0)∧okI x=true) ∨
 (∃ t0 t1 t2 a b,ws=[t0,t1,t2]∧¬ (opK t0=5∨opK t0=6)∧opK t0≠0∧IsDec t1 a∧IsDec t2 b∧x=((opK t0:Int),(a:Int),(b:Int))∧okI x=true)
theorem IsRead.ok {ws:List ByteArray} {x:I3} (h:IsRead ws x):okI x=true:=by
 rcases h with ⟨_,_,_,_,_,_,_,h⟩ | ⟨_,_,_,_,_,_,_,_,_,_,_,h⟩<;>exact h

open Go.Lib

def isBl (r:Nat):Bool:=r == 32

def wordsT (s:ByteArray):List ByteArray:=goFieldsP isBl s

end Go.Proofs.YtifoggpohlegmaaGreatDoor
