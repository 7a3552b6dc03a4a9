/-
  Joined: BugPl.
-/
import Derived.Handy
import Derived.Test.YtdopgkbegjfhjaaC02

namespace Go.Proofs.Ytdopgkbegjfhjaa
set_option maxRecDepth 100000
set_option maxHeartbeats 16000000
open Go.RowKit
set_option linter.unusedVariables false

def ltB (a b:I3):Bool:=decide (a.1<b.1∨(a.1=b.1∧(a.2.1<b.2.1∨(a.2.1=b.2.1∧a.2.2<b.2.2))))
theorem ltB_iff {a b:I3}:ltB a b=true↔a.1<b.1∨(a.1=b.1∧(a.2.1<b.2.1∨(a.2.1=b.2.1∧a.2.2<b.2.2))):=by simp [ltB]
theorem ltB_trans {a b c:I3} (h:ltB a b=true) (k:ltB b c=true):ltB a c=true:=by
 rw [ltB_iff] at *;omega
theorem ltB_total {a b:I3} (h:ltB a b=false) (k:ltB b a=false):a=b:=by
 obtain ⟨a0,a1,a2⟩:=a
 obtain ⟨b0,b1,b2⟩:=b
 have h':¬ ltB (a0,a1,a2) (b0,b1,b2)=true:=by simp [h]
 have k':¬ ltB (b0,b1,b2) (a0,a1,a2)=true:=by simp [k]
 rw [ltB_iff] at h' k'
 simp only at h' k'
 have e0:a0=b0:=by omega
 have e1:a1=b1:=by omega
 have e2:a2=b2:=by omega
 rw [e0,e1,e2]

def Rises (l:List I3):Prop:=l.Pairwise fun a b=>ltB a b=true
def putB:List I3→I3→List I3
 | [],b=>[b]
 | x::xs,b=>if ltB x b then x::putB xs b else if x=b then x::xs else b::x::xs
theorem mem_putB {x b:I3}:∀ {l:List I3},x ∈ putB l b↔x ∈ l∨x=b
 | []=>by simp [putB]
 | y::l=>by
  have ih:=mem_putB (x:=x) (b:=b) (l:=l)
  unfold putB
  split
  ·simp [ih,or_assoc]
  ·split
   ·rename_i h
    subst h
    simp
    intro e
    exact .inl e
   ·simp
    constructor
    ·rintro (h | h | h)
     ·exact .inr h
     ·exact .inl (.inl h)
     ·exact .inl (.inr h)
    ·rintro ((h | h) | h)
     ·exact .inr (.inl h)
     ·exact .inr (.inr h)
     ·exact .inl h
theorem Rises.put {b:I3}:∀ {l:List I3},Rises l→Rises (putB l b)
 | [],_=>by simp [putB,Rises]
 | y::l,h=>by
  have h':=List.pairwise_cons.1 h
  unfold putB
  split
  ·rename_i hy
   refine List.pairwise_cons.2 ⟨fun z hz=>?_,Rises.put h'.2⟩
   rcases mem_putB.1 hz with e | e
   ·exact h'.1 z e
   ·rw [e];exact hy
  ·rename_i hy
   split
   ·exact h
   ·rename_i hne
    have hby:ltB b y=true:=by
     cases k:ltB b y
     ·exact absurd (ltB_total (by simpa using hy) k) hne
     ·rfl
    refine List.pairwise_cons.2 ⟨fun z hz=>?_,h⟩
    rcases List.mem_cons.1 hz with e | e
    ·rw [e];exact hby
    ·exact ltB_trans hby (h'.1 z e)
end Go.Proofs.Ytdopgkbegjfhjaa
