/-
  Joined: Take.
-/
import Derived.Test.YtbdfbdbpjijcdaaGreatDoorProg
import Derived.Deep.RegionHeld3
import Derived.KernelRfl
import Derived.Tactics
import Derived.WalkKit
import Derived.Laws.RangeString
import Derived.Laws.RangeAny
import Derived.Laws.Bits

namespace Go.Proofs.YtbdfbdbpjijcdaaGreatDoor
set_option maxRecDepth 100000
set_option maxHeartbeats 16000000

def bt (s:ByteArray) (k:Nat):Nat:=if h:k<s.size then (s[k]'h).toNat else 0
theorem bt_get (s:ByteArray) (k:Nat) (h:k<s.size):(s[k]'h).toNat=bt s k:=by unfold bt;rw [dif_pos h]
theorem bt_lt (s:ByteArray) (k:Nat):bt s k<256:=by
 unfold bt;split
 ·exact (s[k]).toNat_lt
 ·omega
theorem bt_bang (s:ByteArray) (k:Nat) (h:k<s.size):(s.get! k).toNat=bt s k:=by
 rw [← bt_get s k h]
 have e:s.get! k=s[k]'h:=by
  simp [ByteArray.get!,getElem!_pos,h]
  rfl
 rw [e]

def IsEnd (s:ByteArray) (p k:Nat):Prop:=1≤k∧k≤5∧p+k≤s.size∧(∀ i,i+1<k→128≤bt s (p+i))∧bt s (p+k - 1)<128
def NoEnd (s:ByteArray) (p:Nat):Prop:=∀ i,i<5→p+i<s.size→128≤bt s (p+i)
def highTo (s:ByteArray) (p j:Nat):Prop:=∀ i,i<j→128≤bt s (p+i)

theorem IsEnd.only {s:ByteArray} {p k j:Nat} (h:IsEnd s p k) (g:IsEnd s p j):k=j:=by
 obtain ⟨h1,h2,h3,h4,h5⟩:=h
 obtain ⟨g1,g2,g3,g4,g5⟩:=g
 rcases Nat.lt_trichotomy k j with hl | hl | hl
 ·have:=g4 (k - 1) (by omega)
  rw [show p+(k - 1)=p+k - 1 by omega] at this
  omega
 ·exact hl
 ·have:=h4 (j - 1) (by omega)
  rw [show p+(j - 1)=p+j - 1 by omega] at this
  omega
theorem IsEnd.not_no {s:ByteArray} {p k:Nat} (h:IsEnd s p k) (g:NoEnd s p):False:=by
 obtain ⟨h1,h2,h3,h4,h5⟩:=h
 have:=g (k - 1) (by omega) (by omega)
 rw [show p+(k - 1)=p+k - 1 by omega] at this
 omega
theorem isEnd_at {s:ByteArray} {p j:Nat} (h:highTo s p j) (hj:j<5) (hs:p+j<s.size) (hb:bt s (p+j)<128):IsEnd s p (j+1):=
 ⟨by omega,by omega,by omega,fun i hi=>h i (by omega),by simpa using hb⟩
theorem noEnd_of {s:ByteArray} {p j:Nat} (h:highTo s p j) (hj:5≤j∨s.size≤p+j):NoEnd s p:=fun i hi hs=>h i (by omega)
theorem highTo_zero (s:ByteArray) (p:Nat):highTo s p 0:=fun i h=>absurd h (by omega)

def val (s:ByteArray) (p:Nat):Nat→Nat
 | 0=>0
 | 1=>bt s p % 128
 | 2=>bt s p % 128+bt s (p+1) % 128*128
 | 3=>bt s p % 128+bt s (p+1) % 128*128+bt s (p+2) % 128*16384
 | 4=>bt s p % 128+bt s (p+1) % 128*128+bt s (p+2) % 128*16384+bt s (p+3) % 128*2097152
 | _=>bt s p % 128+bt s (p+1) % 128*128+bt s (p+2) % 128*16384+bt s (p+3) % 128*2097152+bt s (p+4) % 128*268435456

def Num (s:ByteArray) (p n k:Nat):Prop:=IsEnd s p k∧¬ (1<k∧bt s (p+k - 1)=0)∧n=val s p k∧n≤999999999
theorem Num.only {s:ByteArray} {p n k m j:Nat} (h:Num s p n k) (g:Num s p m j):n=m∧k=j:=by
 have e:=h.1.only g.1
 subst e
 exact ⟨h.2.2.1.trans g.2.2.1.symm,rfl⟩
def NoNum (s:ByteArray) (p:Nat):Prop:=∀ n k,¬ Num s p n k
theorem noNum_of_noEnd {s:ByteArray} {p:Nat} (h:NoEnd s p):NoNum s p:=fun _ _ hn=>hn.1.not_no h
theorem noNum_zero {s:ByteArray} {p k:Nat} (h:IsEnd s p k) (hk:1<k) (hb:bt s (p+k - 1)=0):NoNum s p:=by
 intro n j hn
 have e:=h.only hn.1
 subst e
 exact hn.2.1 ⟨hk,hb⟩
theorem noNum_great {s:ByteArray} {p k:Nat} (h:IsEnd s p k) (hv:999999999<val s p k):NoNum s p:=by
 intro n j hn
 have e:=h.only hn.1
 subst e
 have h1:=hn.2.2.1
 have h2:=hn.2.2.2
 omega
theorem val_lt (s:ByteArray) (p k:Nat):val s p k<34359738368:=by
 unfold val
 split<;>omega

theorem bt_cut (s:ByteArray) (p i:Nat):bt (s.extract p s.size) i=bt s (p+i):=by
 unfold bt
 by_cases h:p+i<s.size
 ·have h':i<(s.extract p s.size).size:=by simp;omega
  rw [dif_pos h,dif_pos h']
  congr 1
  simp [ByteArray.getElem_extract]
 ·have h':¬ i<(s.extract p s.size).size:=by simp;omega
  rw [dif_neg h,dif_neg h']
theorem bt_head (s:ByteArray) (m i:Nat) (h:i<m) (hm:m≤s.size):bt (s.extract 0 m) i=bt s i:=by
 unfold bt
 have h1:i<s.size:=by omega
 have h':i<(s.extract 0 m).size:=by simp;omega
 rw [dif_pos h1,dif_pos h']
 congr 1
 simp [ByteArray.getElem_extract]
theorem isEnd_cut {s:ByteArray} {p k:Nat} (hp:p≤s.size) (h:IsEnd (s.extract p s.size) 0 k):IsEnd s p k:=by
 obtain ⟨h1,h2,h3,h4,h5⟩:=h
 refine ⟨h1,h2,?_,fun i hi=>?_,?_⟩
 ·simp at h3;omega
 ·have:=h4 i hi
  rw [bt_cut] at this
  simpa using this
 ·rw [bt_cut] at h5
  rw [show p+k - 1=p+(0+k - 1) by omega]
  exact h5
theorem noEnd_cut {s:ByteArray} {p:Nat} (h:NoEnd (s.extract p s.size) 0):NoEnd s p:=by
 intro i hi hs
 have:=h i hi (by simp;omega)
 rw [bt_cut] at this
 simpa using this
theorem decode_span (s:ByteArray) (pos:Nat) (hp:pos<s.size) (ha:128≤bt s pos):∀ j,j<(Utf8.decode s pos).2→pos+j<s.size∧128≤bt s (pos+j):=by
 have h0:(s.get! (pos+0)).toNat=bt s pos:=bt_bang s pos hp
 have hc:∀ k,(decide (pos+k<s.size) && (s.get! (pos+k)).toNat / 64 == 2)=true→pos+k<s.size∧128≤bt s (pos+k):=by
  intro k hk
  simp only [Bool.and_eq_true,decide_eq_true_eq,beq_iff_eq] at hk
  have:=bt_bang s (pos+k) hk.1
  exact ⟨hk.1,by omega⟩
 intro j hj
 have hz:j=0→pos+j<s.size∧128≤bt s (pos+j):=by rintro rfl;exact ⟨hp,ha⟩
 unfold Utf8.decode at hj
 dsimp only at hj
 rw [if_neg (by rw [h0];omega)] at hj
 split at hj
 ·rename_i h
  simp only [Bool.and_eq_true] at h
  have c1:=hc 1 (by simpa using h.2)
  split at hj
  ·have:j=0∨j=1:=by dsimp only at hj;omega
   rcases this with h | rfl
   ·exact hz h
   ·exact c1
  ·exact hz (by dsimp only at hj;omega)
 ·split at hj
  ·rename_i h
   simp only [Bool.and_eq_true] at h
   have c1:=hc 1 (by simpa using h.1.2)
   have c2:=hc 2 (by simpa using h.2)
   split at hj
   ·have:j=0∨j=1∨j=2:=by dsimp only at hj;omega
    rcases this with h | rfl | rfl
    ·exact hz h
    ·exact c1
    ·exact c2
   ·exact hz (by dsimp only at hj;omega)
  ·split at hj
   ·rename_i h
    simp only [Bool.and_eq_true] at h
    have c1:=hc 1 (by simpa using h.1.1.2)
    have c2:=hc 2 (by simpa using h.1.2)
    have c3:=hc 3 (by simpa using h.2)
    split at hj
    ·have:j=0∨j=1∨j=2∨j=3:=by dsimp only at hj;omega
     rcases this with h | rfl | rfl | rfl
     ·exact hz h
     ·exact c1
     ·exact c2
     ·exact c3
    ·exact hz (by dsimp only at hj;omega)
   ·exact hz (by dsimp only at hj;omega)

def hv (s:ByteArray) (p k:Nat):Nat→Nat
 | 0=>0
 | j+1=>hv s p k j*128+bt s (p+k - 1 - j) % 128
theorem hv_lt (s:ByteArray) (p k:Nat):∀ j,j≤4→hv s p k j<268435456
 | 0,_=>by simp [hv]
 | 1,_=>by simp only [hv];omega
 | 2,_=>by simp only [hv];omega
 | 3,_=>by simp only [hv];omega
 | 4,_=>by simp only [hv];omega
 | j+5,h=>by omega
theorem hv_val (s:ByteArray) (p k:Nat) (h1:1≤k) (h5:k≤5):hv s p k k=val s p k:=by
 have hc:k=1∨k=2∨k=3∨k=4∨k=5:=by omega
 rcases hc with rfl | rfl | rfl | rfl | rfl
 all_goals
  simp only [hv,val,Nat.add_sub_cancel,Nat.sub_zero,show p+2 - 1 - 0=p+1 by omega,show p+2 - 1 - 1=p by omega,show p+3 - 1 - 0=p+2 by omega,show p+3 - 1 - 1=p+1 by omega,show p+3 - 1 - 2=p by omega,show p+4 - 1 - 0=p+3 by omega,show p+4 - 1 - 1=p+2 by omega,show p+4 - 1 - 2=p+1 by omega,show p+4 - 1 - 3=p by omega,show p+5 - 1 - 0=p+4 by omega,show p+5 - 1 - 1=p+3 by omega,show p+5 - 1 - 2=p+2 by omega,show p+5 - 1 - 3=p+1 by omega,show p+5 - 1 - 4=p by omega]
  omega
end Go.Proofs.YtbdfbdbpjijcdaaGreatDoor
