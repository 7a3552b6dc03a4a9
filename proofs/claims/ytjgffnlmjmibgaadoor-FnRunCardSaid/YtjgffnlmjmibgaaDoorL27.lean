/-
  Joined: BugPl, RunPl, RunQ.
-/
import Derived.Test.YtjgffnlmjmibgaaDoorL24
import Derived.Test.YtjgffnlmjmibgaaDoorL25
import Derived.Test.YtjgffnlmjmibgaaDoorL26

namespace Go.Proofs.YtjgffnlmjmibgaaDoor
set_option maxRecDepth 100000
set_option maxHeartbeats 16000000
open Go.RowKit
set_option linter.unusedVariables false

def ltB (a b:I3):Bool:=decide (a.1<b.1∨(a.1=b.1∧(a.2.1<b.2.1∨(a.2.1=b.2.1∧a.2.2<b.2.2))))
theorem ltB_iff {a b:I3}:ltB a b=true↔a.1<b.1∨(a.1=b.1∧(a.2.1<b.2.1∨(a.2.1=b.2.1∧a.2.2<b.2.2))):=by simp [ltB]
theorem ltB_irrefl (a:I3):ltB a a=false:=by
 cases h:ltB a a
 ·rfl
 ·rw [ltB_iff] at h;omega
theorem ltB_trans {a b c:I3} (h:ltB a b=true) (k:ltB b c=true):ltB a c=true:=by
 rw [ltB_iff] at *;omega
theorem ltB_asymm {a b:I3} (h:ltB a b=true):ltB b a=false:=by
 cases k:ltB b a
 ·rfl
 ·rw [ltB_iff] at h k;omega
theorem ltB_total {a b:I3} (h:ltB a b=false) (k:ltB b a=false):a=b:=by
 obtain ⟨a0,a1,a2⟩:=a
 obtain ⟨b0,b1,b2⟩:=b
 have h':¬ ltB (a0,a1,a2) (b0,b1,b2)=true:=by simp [h]
 have k':¬ ltB (b0,b1,b2) (a0,a1,a2)=true:=by simp [k]
 rw [ltB_iff] at h' k'
 simp only at h' k'
 have e0:a0=b0:=by omega
 have e1:a1=b1:=by omega
 have e2:a2=b2:=by omega
 rw [e0,e1,e2]

def Rises (l:List I3):Prop:=l.Pairwise fun a b=>ltB a b=true
theorem Rises.same:∀ {l k:List I3},Rises l→Rises k→(∀ x,x ∈ l↔x ∈ k)→l=k
 | [],[],_,_,_=>rfl
 | [],b::k,_,_,h=>by have:=(h b).2 (by simp);simp at this
 | a::l,[],_,_,h=>by have:=(h a).1 (by simp);simp at this
 | a::l,b::k,hl,hk,h=>by
  have hl':=List.pairwise_cons.1 hl
  have hk':=List.pairwise_cons.1 hk
  have e:a=b:=by
   rcases List.mem_cons.1 ((h a).1 (by simp)) with e | e
   ·exact e
   rcases List.mem_cons.1 ((h b).2 (by simp)) with e' | e'
   ·exact e'.symm
   have h1:=hk'.1 a e
   have h2:=hl'.1 b e'
   rw [ltB_asymm h1] at h2
   cases h2
  subst e
  rw [Rises.same hl'.2 hk'.2 (fun x=>?_)]
  constructor
  ·intro hx
   rcases List.mem_cons.1 ((h x).1 (List.mem_cons_of_mem _ hx)) with e | e
   ·subst e
    have:=hl'.1 x hx
    rw [ltB_irrefl] at this
    cases this
   ·exact e
  ·intro hx
   rcases List.mem_cons.1 ((h x).2 (List.mem_cons_of_mem _ hx)) with e | e
   ·subst e
    have:=hk'.1 x hx
    rw [ltB_irrefl] at this
    cases this
   ·exact e

def putB:List I3→I3→List I3
 | [],b=>[b]
 | x::xs,b=>if ltB x b then x::putB xs b else if x=b then x::xs else b::x::xs
theorem mem_putB {x b:I3}:∀ {l:List I3},x ∈ putB l b↔x ∈ l∨x=b
 | []=>by simp [putB]
 | y::l=>by
  have ih:=mem_putB (x:=x) (b:=b) (l:=l)
  unfold putB
  split
  ·simp [ih,or_assoc]
  ·split
   ·rename_i h
    subst h
    simp
    intro e
    exact .inl e
   ·simp
    constructor
    ·rintro (h | h | h)
     ·exact .inr h
     ·exact .inl (.inl h)
     ·exact .inl (.inr h)
    ·rintro ((h | h) | h)
     ·exact .inr (.inl h)
     ·exact .inr (.inr h)
     ·exact .inl h
theorem Rises.put {b:I3}:∀ {l:List I3},Rises l→Rises (putB l b)
 | [],_=>by simp [putB,Rises]
 | y::l,h=>by
  have h':=List.pairwise_cons.1 h
  unfold putB
  split
  ·rename_i hy
   refine List.pairwise_cons.2 ⟨fun z hz=>?_,Rises.put h'.2⟩
   rcases mem_putB.1 hz with e | e
   ·exact h'.1 z e
   ·rw [e];exact hy
  ·rename_i hy
   split
   ·exact h
   ·rename_i hne
    have hby:ltB b y=true:=by
     cases k:ltB b y
     ·exact absurd (ltB_total (by simpa using hy) k) hne
     ·rfl
    refine List.pairwise_cons.2 ⟨fun z hz=>?_,h⟩
    rcases List.mem_cons.1 hz with e | e
    ·rw [e];exact hby
    ·exact ltB_trans hby (h'.1 z e)
def putAll (out l:List I3):List I3:=l.foldl putB out
theorem mem_putAll {x:I3}:∀ {l out:List I3},x ∈ putAll out l↔x ∈ out∨x ∈ l
 | [],out=>by simp [putAll]
 | y::l,out=>by
  have ih:=mem_putAll (x:=x) (l:=l) (out:=putB out y)
  unfold putAll at *
  rw [List.foldl_cons,ih,mem_putB]
  simp [or_assoc]
theorem Rises.putAll {l:List I3}:∀ {out:List I3},Rises out→Rises (putAll out l):=by
 induction l with
 | nil=>intro out h;exact h
 | cons y l ih=>intro out h;exact ih h.put
def mergeB (a b:List I3):List I3:=putAll (putAll [] a) b
theorem mergeB_rises (a b:List I3):Rises (mergeB a b):=Rises.putAll (Rises.putAll List.Pairwise.nil)
theorem mem_mergeB {x:I3} {a b:List I3}:x ∈ mergeB a b↔x ∈ a∨x ∈ b:=by
 unfold mergeB
 rw [mem_putAll,mem_putAll]
 simp
theorem putB_len (l:List I3) (b:I3):(putB l b).length≤l.length+1:=by
 induction l with
 | nil=>simp [putB]
 | cons y l ih =>
  unfold putB
  split
  ·simp;omega
  ·split<;>simp
theorem putAll_len:∀ (l out:List I3),(putAll out l).length≤out.length+l.length
 | [],out=>by simp [putAll]
 | y::l,out=>by
  have:=putAll_len l (putB out y)
  have h2:=putB_len out y
  unfold putAll at *
  simp only [List.foldl_cons,List.length_cons]
  omega
theorem mergeB_len (a b:List I3):(mergeB a b).length≤a.length+b.length:=by
 have h1:=putAll_len a []
 have h2:=putAll_len b (putAll [] a)
 simp at h1
 unfold mergeB
 omega
def onceB:List I3→List I3
 | []=>[]
 | [x]=>[x]
 | x::y::l=>if x=y then onceB (y::l) else x::onceB (y::l)
theorem onceB_head:∀ (x:I3) (l:List I3),∃ t,onceB (x::l)=x::t
 | x,[]=>⟨[],rfl⟩
 | x,y::l=>by
  unfold onceB
  split
  ·rename_i h
   subst h
   exact onceB_head x l
  ·exact ⟨_,rfl⟩
theorem mem_onceB {z:I3}:∀ {l:List I3},z ∈ onceB l↔z ∈ l
 | []=>by simp [onceB]
 | [x]=>by simp [onceB]
 | x::y::l=>by
  have ih:=mem_onceB (z:=z) (l:=y::l)
  unfold onceB
  split
  ·rename_i h
   subst h
   rw [ih]
   simp
  ·simp only [List.mem_cons] at ih ⊢
   rw [ih]
theorem onceB_rises:∀ {l:List I3},(l.Pairwise fun a b=>ltB b a=false)→Rises (onceB l)
 | [],_=>List.Pairwise.nil
 | [x],_=>by simp [onceB,Rises]
 | x::y::l,h=>by
  have h':=List.pairwise_cons.1 h
  have ih:=onceB_rises h'.2
  unfold onceB
  split
  ·exact ih
  ·rename_i hne
   refine List.pairwise_cons.2 ⟨fun z hz=>?_,ih⟩
   have hz':=mem_onceB.1 hz
   have hxy:ltB x y=true:=by
    cases k:ltB x y
    ·exact absurd (ltB_total k (h'.1 y (by simp))) hne
    ·rfl
   rcases List.mem_cons.1 hz' with e | e
   ·rw [e];exact hxy
   ·have h2:=(List.pairwise_cons.1 h'.2).1 z e
    cases k:ltB x z
    ·have hzx:=h'.1 z hz'
     have e2:=ltB_total k hzx
     subst e2
     rw [h2] at hxy
     cases hxy
    ·rfl
theorem once_merge {a b l:List I3} (hs:l.Pairwise fun a b=>ltB b a=false) (hm:∀ x,x ∈ l↔x ∈ a∨x ∈ b):onceB l=mergeB a b:=
 (onceB_rises hs).same (mergeB_rises a b) fun x=>by rw [mem_onceB,hm,mem_mergeB]


def haltM (rows:List (List I3)) (m:V4) (k:Int):Int:=
 if 0≤k∧k≤2 then (if doneM rows m k.toNat then 10 else if canM rows m k.toNat then 0 else 11) else 4
def goM (rows:List (List I3)) (m:V4) (k:Int):V4 × Int:=stepM m (insM rows m k.toNat) k.toNat
def ownM (rows:List (List I3)) (m:V4) (k:Int):List I3:=if (goM rows m k).2=0 then [] else [((goM rows m k).2,k,m.1.getD k.toNat 0)]
def deadM (rows:List (List I3)) (m:V4):List I3:=if stuckM rows m then [(14,0,0)] else []
def foundM (rows:List (List I3)) (m:V4) (k:Int):List I3:=if stuckM rows (goM rows m k).1 then putB (ownM rows m k) (14,0,0) else ownM rows m k

def runI (rows:List (List I3)):V4→List I3→List Int→V4 × List I3 × Int
 | m,fs,[]=>(m,fs,0)
 | m,fs,k::ks=>if haltM rows m k=0 then runI rows (goM rows m k).1 (fs++ownM rows m k) ks else (m,fs,haltM rows m k)
def runS (rows:List (List I3)):V4→List I3→List Int→V4 × List I3 × Int
 | m,out,[]=>(m,out,0)
 | m,out,k::ks=>if haltM rows m k=0 then runS rows (goM rows m k).1 (mergeB out (foundM rows m k)) ks else (m,out,haltM rows m k)

theorem halt_can {rows:List (List I3)} {m:V4} {k:Int} (h:haltM rows m k=0):0≤k∧k≤2∧doneM rows m k.toNat=false∧canM rows m k.toNat=true:=by
 unfold haltM at h
 split at h
 ·rename_i hk
  cases hd:doneM rows m k.toNat
  ·cases hc:canM rows m k.toNat
   ·rw [hd,hc] at h;simp at h
   ·exact ⟨hk.1,hk.2,rfl,rfl⟩
  ·rw [hd] at h;simp at h
 ·cases h
theorem can_not_stuck {rows:List (List I3)} {m:V4} {k:Nat} (hk:k<3) (h:canM rows m k=true):stuckM rows m=false:=by
 have hm:(k:Int) ∈ enabM rows m 3:=(mem_enab 3).2 ⟨hk,h⟩
 unfold stuckM
 have hne:¬ (enabM rows m 3=[]):=fun e=>by rw [e] at hm;simp at hm
 simp [hne]
theorem mem_found {rows:List (List I3)} {m:V4} {k:Int} {x:I3}:x ∈ foundM rows m k↔x ∈ ownM rows m k∨x ∈ deadM rows (goM rows m k).1:=by
 unfold foundM deadM
 cases stuckM rows (goM rows m k).1
 ·simp
 ·simp only [if_true,mem_putB,List.mem_singleton]
theorem run_same {rows:List (List I3)}:∀ (ks:List Int) (m:V4) (fs out:List I3),out=mergeB fs (deadM rows m) →
  (runS rows m out ks).1=(runI rows m fs ks).1∧(runS rows m out ks).2.2=(runI rows m fs ks).2.2∧(runS rows m out ks).2.1=mergeB (runI rows m fs ks).2.1 (deadM rows (runI rows m fs ks).1)
 | [],m,fs,out,h=>⟨rfl,rfl,h⟩
 | k::ks,m,fs,out,h=>by
  by_cases hz:haltM rows m k=0
  ·obtain ⟨h0,h2,_,hc⟩:=halt_can hz
   have hst:=can_not_stuck (rows:=rows) (m:=m) (k:=k.toNat) (by omega) hc
   have hd:deadM rows m=[]:=by unfold deadM;rw [hst];rfl
   have e1:runS rows m out (k::ks)=runS rows (goM rows m k).1 (mergeB out (foundM rows m k)) ks:=by
    show (if haltM rows m k=0 then _ else _)=_
    rw [if_pos hz]
   have e2:runI rows m fs (k::ks)=runI rows (goM rows m k).1 (fs++ownM rows m k) ks:=by
    show (if haltM rows m k=0 then _ else _)=_
    rw [if_pos hz]
   rw [e1,e2]
   refine run_same ks _ _ _ ((mergeB_rises _ _).same (mergeB_rises _ _) fun x=>?_)
   rw [mem_mergeB,mem_mergeB,h,mem_mergeB,hd,mem_found,List.mem_append]
   simp only [List.not_mem_nil,or_false,or_assoc]
  ·have e1:runS rows m out (k::ks)=(m,out,haltM rows m k):=by
    show (if haltM rows m k=0 then _ else _)=_
    rw [if_neg hz]
   have e2:runI rows m fs (k::ks)=(m,fs,haltM rows m k):=by
    show (if haltM rows m k=0 then _ else _)=_
    rw [if_neg hz]
   rw [e1,e2]
   exact ⟨rfl,rfl,h⟩
theorem runI_len {rows:List (List I3)}:∀ (ks:List Int) (m:V4) (fs:List I3),(runI rows m fs ks).2.1.length≤fs.length+ks.length
 | [],m,fs=>by simp [runI]
 | k::ks,m,fs=>by
  have h1:(ownM rows m k).length≤1:=by unfold ownM;split<;>simp
  have h2:=runI_len (rows:=rows) ks (goM rows m k).1 (fs++ownM rows m k)
  unfold runI
  split
  ·rw [List.length_append] at h2
   simp only [List.length_cons]
   omega
  ·simp only [List.length_cons]
   omega


theorem step_codeQ (m:V4) (x:I3) (k:Nat):(stepM m x k).2=0∨(stepM m x k).2=12∨(stepM m x k).2=13:=by
 unfold stepM
 repeat' split
 all_goals simp
theorem ownM_ok {rows:List (List I3)} {m:V4} {k:Int} (hp:progOk rows=true) (hs:shapeOk m=true) (hz:haltM rows m k=0):∀ x ∈ ownM rows m k,okB x=true:=by
 obtain ⟨h0,h2,hd,hc⟩:=halt_can hz
 obtain ⟨q,rfl⟩:∃ q:Nat,k=q:=⟨k.toNat,by omega⟩
 rw [Int.toNat_natCast] at hd
 have hq:q<3:=by omega
 obtain ⟨p,ep,hlt,_,_⟩:=at_ins hp hs hq hd
 have hl6:=(codeM_len hp hq).1
 have hf:=step_codeQ m (insM rows m q) q
 intro x hx
 unfold ownM goM at hx
 rw [Int.toNat_natCast] at hx
 split at hx
 ·simp at hx
 ·rename_i h9
  simp only [List.mem_singleton] at hx
  subst hx
  unfold okB
  simp only
  have h12:(stepM m (insM rows m q) q).2=12∨(stepM m (insM rows m q) q).2=13:=by omega
  rw [if_neg (by omega),if_pos h12,ep]
  rw [Bool.and_eq_true]
  exact ⟨inB_true.2 (by omega),inB_true.2 (by omega)⟩
theorem goM_shape {rows:List (List I3)} {m:V4} {k:Int} (hp:progOk rows=true) (hs:shapeOk m=true) (hz:haltM rows m k=0):shapeOk (goM rows m k).1=true:=by
 obtain ⟨h0,h2,hd,hc⟩:=halt_can hz
 exact shape_step hp hs (by omega) hd
theorem runI_ok {rows:List (List I3)} (hp:progOk rows=true):∀ (ks:List Int) (m:V4) (fs:List I3),shapeOk m=true→(∀ x ∈ fs,okB x=true)→shapeOk (runI rows m fs ks).1=true∧∀ x ∈ (runI rows m fs ks).2.1,okB x=true
 | [],m,fs,hs,hf=>⟨hs,hf⟩
 | k::ks,m,fs,hs,hf=>by
  by_cases hz:haltM rows m k=0
  ·have e2:runI rows m fs (k::ks)=runI rows (goM rows m k).1 (fs++ownM rows m k) ks:=by
    show (if haltM rows m k=0 then _ else _)=_
    rw [if_pos hz]
   rw [e2]
   exact runI_ok hp ks _ _ (goM_shape hp hs hz) fun x hx=>(List.mem_append.1 hx).elim (hf x) (ownM_ok hp hs hz x)
  ·have e2:runI rows m fs (k::ks)=(m,fs,haltM rows m k):=by
    show (if haltM rows m k=0 then _ else _)=_
    rw [if_neg hz]
   rw [e2]
   exact ⟨hs,hf⟩
theorem okB_fitsQ {x:I3} (h:okB x=true):I3.fits x:=by
 unfold okB at h
 split at h
 ·rename_i h1
  simp only [Bool.and_eq_true,decide_eq_true_eq] at h
  exact ⟨fits_small (by omega) (by omega),fits_small (by omega) (by omega),fits_small (by omega) (by omega)⟩
 ·split at h
  ·rename_i h1
   rw [Bool.and_eq_true] at h
   have a:=inB_true.1 h.1
   have b:=inB_true.1 h.2
   exact ⟨fits_small (by omega) (by omega),fits_small (by omega) (by omega),fits_small (by omega) (by omega)⟩
  ·cases h
theorem deadM_ok (rows:List (List I3)) (m:V4):∀ x ∈ deadM rows m,okB x=true:=by
 unfold deadM
 split
 ·intro x hx
  simp only [List.mem_singleton] at hx
  subst hx
  rfl
 ·simp
end Go.Proofs.YtjgffnlmjmibgaaDoor
