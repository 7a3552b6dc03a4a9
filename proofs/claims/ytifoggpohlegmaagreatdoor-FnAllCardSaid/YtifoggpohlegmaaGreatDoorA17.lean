/-
  Joined: Bug0, BugPl, MarkH, BugS.
-/
import Derived.Test.YtifoggpohlegmaaGreatDoorA02
import Derived.Test.YtifoggpohlegmaaGreatDoorA03

namespace Go.Proofs.YtifoggpohlegmaaGreatDoor
set_option maxRecDepth 100000
set_option maxHeartbeats 16000000
open Go.RowKit
set_option linter.unusedVariables false

def okB (x:I3):Bool:=
 if x.1=14 then decide (x.2.1=0) && decide (x.2.2=0)
 else if x.1=12∨x.1=13 then inB x.2.1 0 2 && inB x.2.2 0 5
 else false

theorem isThread_is (n:Int) (w:World):Calls Tryz.prog 133 #[.int .i64 n] w fun e w'=>e=.returned (.bool (inB n 0 2))∧w=w':=by
 cases h:inB n 0 2
 ·rw [inB_false] at h
  by_cases h1:0≤n
  ·have h2:decide (n<3)=false:=by simp;omega
   clear h
   go_enter Tryz.func133,Tryz.ntmps133
   go_wp2
   go_ret
   exact ⟨rfl,rfl⟩
  ·clear h
   go_enter Tryz.func133,Tryz.ntmps133
   go_wp2
   go_ret
   exact ⟨rfl,rfl⟩
 ·rw [inB_true] at h
  obtain ⟨h1,h3⟩:=h
  have h2:decide (n<3)=true:=by simp;omega
  clear h3
  go_enter Tryz.func133,Tryz.ntmps133
  go_wp2
  go_ret
  exact ⟨by simp_all,rfl⟩


def ltB (a b:I3):Bool:=decide (a.1<b.1∨(a.1=b.1∧(a.2.1<b.2.1∨(a.2.1=b.2.1∧a.2.2<b.2.2))))
theorem ltB_iff {a b:I3}:ltB a b=true↔a.1<b.1∨(a.1=b.1∧(a.2.1<b.2.1∨(a.2.1=b.2.1∧a.2.2<b.2.2))):=by simp [ltB]
theorem ltB_irrefl (a:I3):ltB a a=false:=by
 cases h:ltB a a
 ·rfl
 ·rw [ltB_iff] at h;omega
theorem ltB_trans {a b c:I3} (h:ltB a b=true) (k:ltB b c=true):ltB a c=true:=by
 rw [ltB_iff] at *;omega
theorem ltB_asymm {a b:I3} (h:ltB a b=true):ltB b a=false:=by
 cases k:ltB b a
 ·rfl
 ·rw [ltB_iff] at h k;omega
theorem ltB_total {a b:I3} (h:ltB a b=false) (k:ltB b a=false):a=b:=by
 obtain ⟨a0,a1,a2⟩:=a
 obtain ⟨b0,b1,b2⟩:=b
 have h':¬ ltB (a0,a1,a2) (b0,b1,b2)=true:=by simp [h]
 have k':¬ ltB (b0,b1,b2) (a0,a1,a2)=true:=by simp [k]
 rw [ltB_iff] at h' k'
 simp only at h' k'
 have e0:a0=b0:=by omega
 have e1:a1=b1:=by omega
 have e2:a2=b2:=by omega
 rw [e0,e1,e2]

def Rises (l:List I3):Prop:=l.Pairwise fun a b=>ltB a b=true
theorem Rises.same:∀ {l k:List I3},Rises l→Rises k→(∀ x,x ∈ l↔x ∈ k)→l=k
 | [],[],_,_,_=>rfl
 | [],b::k,_,_,h=>by have:=(h b).2 (by simp);simp at this
 | a::l,[],_,_,h=>by have:=(h a).1 (by simp);simp at this
 | a::l,b::k,hl,hk,h=>by
  have hl':=List.pairwise_cons.1 hl
  have hk':=List.pairwise_cons.1 hk
  have e:a=b:=by
   rcases List.mem_cons.1 ((h a).1 (by simp)) with e | e
   ·exact e
   rcases List.mem_cons.1 ((h b).2 (by simp)) with e' | e'
   ·exact e'.symm
   have h1:=hk'.1 a e
   have h2:=hl'.1 b e'
   rw [ltB_asymm h1] at h2
   cases h2
  subst e
  rw [Rises.same hl'.2 hk'.2 (fun x=>?_)]
  constructor
  ·intro hx
   rcases List.mem_cons.1 ((h x).1 (List.mem_cons_of_mem _ hx)) with e | e
   ·subst e
    have:=hl'.1 x hx
    rw [ltB_irrefl] at this
    cases this
   ·exact e
  ·intro hx
   rcases List.mem_cons.1 ((h x).2 (List.mem_cons_of_mem _ hx)) with e | e
   ·subst e
    have:=hk'.1 x hx
    rw [ltB_irrefl] at this
    cases this
   ·exact e

def putB:List I3→I3→List I3
 | [],b=>[b]
 | x::xs,b=>if ltB x b then x::putB xs b else if x=b then x::xs else b::x::xs
theorem mem_putB {x b:I3}:∀ {l:List I3},x ∈ putB l b↔x ∈ l∨x=b
 | []=>by simp [putB]
 | y::l=>by
  have ih:=mem_putB (x:=x) (b:=b) (l:=l)
  unfold putB
  split
  ·simp [ih,or_assoc]
  ·split
   ·rename_i h
    subst h
    simp
    intro e
    exact .inl e
   ·simp
    constructor
    ·rintro (h | h | h)
     ·exact .inr h
     ·exact .inl (.inl h)
     ·exact .inl (.inr h)
    ·rintro ((h | h) | h)
     ·exact .inr (.inl h)
     ·exact .inr (.inr h)
     ·exact .inl h
theorem Rises.put {b:I3}:∀ {l:List I3},Rises l→Rises (putB l b)
 | [],_=>by simp [putB,Rises]
 | y::l,h=>by
  have h':=List.pairwise_cons.1 h
  unfold putB
  split
  ·rename_i hy
   refine List.pairwise_cons.2 ⟨fun z hz=>?_,Rises.put h'.2⟩
   rcases mem_putB.1 hz with e | e
   ·exact h'.1 z e
   ·rw [e];exact hy
  ·rename_i hy
   split
   ·exact h
   ·rename_i hne
    have hby:ltB b y=true:=by
     cases k:ltB b y
     ·exact absurd (ltB_total (by simpa using hy) k) hne
     ·rfl
    refine List.pairwise_cons.2 ⟨fun z hz=>?_,h⟩
    rcases List.mem_cons.1 hz with e | e
    ·rw [e];exact hby
    ·exact ltB_trans hby (h'.1 z e)
def putAll (out l:List I3):List I3:=l.foldl putB out
theorem mem_putAll {x:I3}:∀ {l out:List I3},x ∈ putAll out l↔x ∈ out∨x ∈ l
 | [],out=>by simp [putAll]
 | y::l,out=>by
  have ih:=mem_putAll (x:=x) (l:=l) (out:=putB out y)
  unfold putAll at *
  rw [List.foldl_cons,ih,mem_putB]
  simp [or_assoc]
theorem Rises.putAll {l:List I3}:∀ {out:List I3},Rises out→Rises (putAll out l):=by
 induction l with
 | nil=>intro out h;exact h
 | cons y l ih=>intro out h;exact ih h.put
def mergeB (a b:List I3):List I3:=putAll (putAll [] a) b
theorem mergeB_rises (a b:List I3):Rises (mergeB a b):=Rises.putAll (Rises.putAll List.Pairwise.nil)
theorem mem_mergeB {x:I3} {a b:List I3}:x ∈ mergeB a b↔x ∈ a∨x ∈ b:=by
 unfold mergeB
 rw [mem_putAll,mem_putAll]
 simp
theorem putB_len (l:List I3) (b:I3):(putB l b).length≤l.length+1:=by
 induction l with
 | nil=>simp [putB]
 | cons y l ih =>
  unfold putB
  split
  ·simp;omega
  ·split<;>simp
theorem putAll_len:∀ (l out:List I3),(putAll out l).length≤out.length+l.length
 | [],out=>by simp [putAll]
 | y::l,out=>by
  have:=putAll_len l (putB out y)
  have h2:=putB_len out y
  unfold putAll at *
  simp only [List.foldl_cons,List.length_cons]
  omega
theorem mergeB_len (a b:List I3):(mergeB a b).length≤a.length+b.length:=by
 have h1:=putAll_len a []
 have h2:=putAll_len b (putAll [] a)
 simp at h1
 unfold mergeB
 omega
def onceB:List I3→List I3
 | []=>[]
 | [x]=>[x]
 | x::y::l=>if x=y then onceB (y::l) else x::onceB (y::l)
theorem onceB_head:∀ (x:I3) (l:List I3),∃ t,onceB (x::l)=x::t
 | x,[]=>⟨[],rfl⟩
 | x,y::l=>by
  unfold onceB
  split
  ·rename_i h
   subst h
   exact onceB_head x l
  ·exact ⟨_,rfl⟩
theorem mem_onceB {z:I3}:∀ {l:List I3},z ∈ onceB l↔z ∈ l
 | []=>by simp [onceB]
 | [x]=>by simp [onceB]
 | x::y::l=>by
  have ih:=mem_onceB (z:=z) (l:=y::l)
  unfold onceB
  split
  ·rename_i h
   subst h
   rw [ih]
   simp
  ·simp only [List.mem_cons] at ih ⊢
   rw [ih]
theorem onceB_rises:∀ {l:List I3},(l.Pairwise fun a b=>ltB b a=false)→Rises (onceB l)
 | [],_=>List.Pairwise.nil
 | [x],_=>by simp [onceB,Rises]
 | x::y::l,h=>by
  have h':=List.pairwise_cons.1 h
  have ih:=onceB_rises h'.2
  unfold onceB
  split
  ·exact ih
  ·rename_i hne
   refine List.pairwise_cons.2 ⟨fun z hz=>?_,ih⟩
   have hz':=mem_onceB.1 hz
   have hxy:ltB x y=true:=by
    cases k:ltB x y
    ·exact absurd (ltB_total k (h'.1 y (by simp))) hne
    ·rfl
   rcases List.mem_cons.1 hz' with e | e
   ·rw [e];exact hxy
   ·have h2:=(List.pairwise_cons.1 h'.2).1 z e
    cases k:ltB x z
    ·have hzx:=h'.1 z hz'
     have e2:=ltB_total k hzx
     subst e2
     rw [h2] at hxy
     cases hxy
    ·rfl
theorem once_merge {a b l:List I3} (hs:l.Pairwise fun a b=>ltB b a=false) (hm:∀ x,x ∈ l↔x ∈ a∨x ∈ b):onceB l=mergeB a b:=
 (onceB_rises hs).same (mergeB_rises a b) fun x=>by rw [mem_onceB,hm,mem_mergeB]


theorem flat_at {xs:List I3} {t:Nat} (ht:t<xs.length):(flat xs)[t*3]?=some (.int .i64 (xs.getD t (0,0,0)).1)∧(flat xs)[t*3+1]?=some (.int .i64 (xs.getD t (0,0,0)).2.1)∧(flat xs)[t*3+2]?=some (.int .i64 (xs.getD t (0,0,0)).2.2):=by
 have hsplit:flat xs=flat (xs.take t)++((xs.getD t (0,0,0)).cells++flat (xs.drop (t+1))):=by
  rw [← List.append_assoc,← flat_take_succ ht]
  unfold flat
  rw [← List.flatMap_append,List.take_append_drop]
 have hlt:(flat (xs.take t)).length=t*3:=by rw [flat_length,List.length_take];rw [Nat.min_eq_left (by omega)]
 have h:∀ j,j<3→(flat xs)[t*3+j]?=((xs.getD t (0,0,0)).cells)[j]?:=fun j hj=>by
  rw [hsplit,List.getElem?_append_right (by omega),hlt,Nat.add_sub_cancel_left,List.getElem?_append_left (by simp [I3.cells];omega)]
 exact ⟨by simpa [I3.cells] using h 0 (by omega),by simpa [I3.cells] using h 1 (by omega),by simpa [I3.cells] using h 2 (by omega)⟩


theorem info_bug:(Tryz.prog.info? 64).map (fun i=>(i.zero,i.size,i.bytes))=some (some (.agg #[.int .i64 0,.int .i64 0,.int .i64 0]),3,24):=by kernel_rfl

end Go.Proofs.YtifoggpohlegmaaGreatDoor
