/-
  Joined: NumP, RpP.
-/
import Derived.Lib.FieldsP
import Derived.Test.YtifoggpohlegmaaGreatDoorC05
import Derived.Test.YtifoggpohlegmaaGreatDoorC20

namespace Go.Proofs.YtifoggpohlegmaaGreatDoor
set_option maxRecDepth 100000
set_option maxHeartbeats 16000000

def digVal (s:ByteArray):Nat→Nat
 | 0=>0
 | k+1=>10*digVal s k+(bt s k - 48)
def allDig (s:ByteArray) (k:Nat):Prop:=∀ i,i<k→48≤bt s i∧bt s i≤57
theorem digVal_lt {s:ByteArray}:∀ {k:Nat},allDig s k→digVal s k<10 ^ k
 | 0,_=>by simp [digVal]
 | k+1,h=>by
  have ih:=digVal_lt (k:=k) (fun i hi=>h i (by omega))
  have:=h k (by omega)
  rw [digVal,Nat.pow_succ]
  omega
theorem digVal_small {s:ByteArray} {k:Nat} (h:allDig s k) (hk:k≤18):digVal s k<1000000000000000000:=by
 have h1:=digVal_lt h
 have h2:10 ^ k≤10 ^ 18:=Nat.pow_le_pow_right (by omega) hk
 have:(10:Nat) ^ 18=1000000000000000000:=by decide
 omega
def IsDec (s:ByteArray) (n:Nat):Prop:=1≤s.size∧s.size≤18∧¬ (1<s.size∧bt s 0=48)∧allDig s s.size∧n=digVal s s.size
theorem IsDec.lt {s:ByteArray} {n:Nat} (h:IsDec s n):n<1000000000000000000:=by
 obtain ⟨_,h2,_,h4,rfl⟩:=h
 exact digVal_small h4 h2

open Go.RowKit

theorem okI_fits {x:I3} (h:okI x=true):I3.fits x:=by
 obtain ⟨h0,h1,h2⟩:=okI_small h
 have wf:∀ z:Int,0≤z∧z≤9→(Lit.int .i64 z).wf=true:=fun z hz=>by
  simp [Lit.wf,IntKind.min,IntKind.max,IntKind.signed,IntKind.bits]
  omega
 exact ⟨wf _ h0,wf _ h1,wf _ h2⟩
end Go.Proofs.YtifoggpohlegmaaGreatDoor
