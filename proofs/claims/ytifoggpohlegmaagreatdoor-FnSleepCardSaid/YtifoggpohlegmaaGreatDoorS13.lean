/-
  Joined: BugPl, MarkH, BugS, MrgA.
-/
import Derived.Test.YtifoggpohlegmaaGreatDoorS02

namespace Go.Proofs.YtifoggpohlegmaaGreatDoor
set_option maxRecDepth 100000
set_option maxHeartbeats 16000000
open Go.RowKit
set_option linter.unusedVariables false

def ltB (a b:I3):Bool:=decide (a.1<b.1∨(a.1=b.1∧(a.2.1<b.2.1∨(a.2.1=b.2.1∧a.2.2<b.2.2))))
theorem ltB_iff {a b:I3}:ltB a b=true↔a.1<b.1∨(a.1=b.1∧(a.2.1<b.2.1∨(a.2.1=b.2.1∧a.2.2<b.2.2))):=by simp [ltB]
theorem ltB_irrefl (a:I3):ltB a a=false:=by
 cases h:ltB a a
 ·rfl
 ·rw [ltB_iff] at h;omega
theorem ltB_trans {a b c:I3} (h:ltB a b=true) (k:ltB b c=true):ltB a c=true:=by
 rw [ltB_iff] at *;omega
theorem ltB_asymm {a b:I3} (h:ltB a b=true):ltB b a=false:=by
 cases k:ltB b a
 ·rfl
 ·rw [ltB_iff] at h k;omega
theorem ltB_total {a b:I3} (h:ltB a b=false) (k:ltB b a=false):a=b:=by
 obtain ⟨a0,a1,a2⟩:=a
 obtain ⟨b0,b1,b2⟩:=b
 have h':¬ ltB (a0,a1,a2) (b0,b1,b2)=true:=by simp [h]
 have k':¬ ltB (b0,b1,b2) (a0,a1,a2)=true:=by simp [k]
 rw [ltB_iff] at h' k'
 simp only at h' k'
 have e0:a0=b0:=by omega
 have e1:a1=b1:=by omega
 have e2:a2=b2:=by omega
 rw [e0,e1,e2]

def Rises (l:List I3):Prop:=l.Pairwise fun a b=>ltB a b=true
theorem Rises.same:∀ {l k:List I3},Rises l→Rises k→(∀ x,x ∈ l↔x ∈ k)→l=k
 | [],[],_,_,_=>rfl
 | [],b::k,_,_,h=>by have:=(h b).2 (by simp);simp at this
 | a::l,[],_,_,h=>by have:=(h a).1 (by simp);simp at this
 | a::l,b::k,hl,hk,h=>by
  have hl':=List.pairwise_cons.1 hl
  have hk':=List.pairwise_cons.1 hk
  have e:a=b:=by
   rcases List.mem_cons.1 ((h a).1 (by simp)) with e | e
   ·exact e
   rcases List.mem_cons.1 ((h b).2 (by simp)) with e' | e'
   ·exact e'.symm
   have h1:=hk'.1 a e
   have h2:=hl'.1 b e'
   rw [ltB_asymm h1] at h2
   cases h2
  subst e
  rw [Rises.same hl'.2 hk'.2 (fun x=>?_)]
  constructor
  ·intro hx
   rcases List.mem_cons.1 ((h x).1 (List.mem_cons_of_mem _ hx)) with e | e
   ·subst e
    have:=hl'.1 x hx
    rw [ltB_irrefl] at this
    cases this
   ·exact e
  ·intro hx
   rcases List.mem_cons.1 ((h x).2 (List.mem_cons_of_mem _ hx)) with e | e
   ·subst e
    have:=hk'.1 x hx
    rw [ltB_irrefl] at this
    cases this
   ·exact e

def putB:List I3→I3→List I3
 | [],b=>[b]
 | x::xs,b=>if ltB x b then x::putB xs b else if x=b then x::xs else b::x::xs
theorem mem_putB {x b:I3}:∀ {l:List I3},x ∈ putB l b↔x ∈ l∨x=b
 | []=>by simp [putB]
 | y::l=>by
  have ih:=mem_putB (x:=x) (b:=b) (l:=l)
  unfold putB
  split
  ·simp [ih,or_assoc]
  ·split
   ·rename_i h
    subst h
    simp
    intro e
    exact .inl e
   ·simp
    constructor
    ·rintro (h | h | h)
     ·exact .inr h
     ·exact .inl (.inl h)
     ·exact .inl (.inr h)
    ·rintro ((h | h) | h)
     ·exact .inr (.inl h)
     ·exact .inr (.inr h)
     ·exact .inl h
theorem Rises.put {b:I3}:∀ {l:List I3},Rises l→Rises (putB l b)
 | [],_=>by simp [putB,Rises]
 | y::l,h=>by
  have h':=List.pairwise_cons.1 h
  unfold putB
  split
  ·rename_i hy
   refine List.pairwise_cons.2 ⟨fun z hz=>?_,Rises.put h'.2⟩
   rcases mem_putB.1 hz with e | e
   ·exact h'.1 z e
   ·rw [e];exact hy
  ·rename_i hy
   split
   ·exact h
   ·rename_i hne
    have hby:ltB b y=true:=by
     cases k:ltB b y
     ·exact absurd (ltB_total (by simpa using hy) k) hne
     ·rfl
    refine List.pairwise_cons.2 ⟨fun z hz=>?_,h⟩
    rcases List.mem_cons.1 hz with e | e
    ·rw [e];exact hby
    ·exact ltB_trans hby (h'.1 z e)
def putAll (out l:List I3):List I3:=l.foldl putB out
theorem mem_putAll {x:I3}:∀ {l out:List I3},x ∈ putAll out l↔x ∈ out∨x ∈ l
 | [],out=>by simp [putAll]
 | y::l,out=>by
  have ih:=mem_putAll (x:=x) (l:=l) (out:=putB out y)
  unfold putAll at *
  rw [List.foldl_cons,ih,mem_putB]
  simp [or_assoc]
theorem Rises.putAll {l:List I3}:∀ {out:List I3},Rises out→Rises (putAll out l):=by
 induction l with
 | nil=>intro out h;exact h
 | cons y l ih=>intro out h;exact ih h.put
def mergeB (a b:List I3):List I3:=putAll (putAll [] a) b
theorem mergeB_rises (a b:List I3):Rises (mergeB a b):=Rises.putAll (Rises.putAll List.Pairwise.nil)
theorem mem_mergeB {x:I3} {a b:List I3}:x ∈ mergeB a b↔x ∈ a∨x ∈ b:=by
 unfold mergeB
 rw [mem_putAll,mem_putAll]
 simp
theorem putB_len (l:List I3) (b:I3):(putB l b).length≤l.length+1:=by
 induction l with
 | nil=>simp [putB]
 | cons y l ih =>
  unfold putB
  split
  ·simp;omega
  ·split<;>simp
theorem putAll_len:∀ (l out:List I3),(putAll out l).length≤out.length+l.length
 | [],out=>by simp [putAll]
 | y::l,out=>by
  have:=putAll_len l (putB out y)
  have h2:=putB_len out y
  unfold putAll at *
  simp only [List.foldl_cons,List.length_cons]
  omega
theorem mergeB_len (a b:List I3):(mergeB a b).length≤a.length+b.length:=by
 have h1:=putAll_len a []
 have h2:=putAll_len b (putAll [] a)
 simp at h1
 unfold mergeB
 omega
def onceB:List I3→List I3
 | []=>[]
 | [x]=>[x]
 | x::y::l=>if x=y then onceB (y::l) else x::onceB (y::l)
theorem onceB_head:∀ (x:I3) (l:List I3),∃ t,onceB (x::l)=x::t
 | x,[]=>⟨[],rfl⟩
 | x,y::l=>by
  unfold onceB
  split
  ·rename_i h
   subst h
   exact onceB_head x l
  ·exact ⟨_,rfl⟩
theorem mem_onceB {z:I3}:∀ {l:List I3},z ∈ onceB l↔z ∈ l
 | []=>by simp [onceB]
 | [x]=>by simp [onceB]
 | x::y::l=>by
  have ih:=mem_onceB (z:=z) (l:=y::l)
  unfold onceB
  split
  ·rename_i h
   subst h
   rw [ih]
   simp
  ·simp only [List.mem_cons] at ih ⊢
   rw [ih]
theorem onceB_rises:∀ {l:List I3},(l.Pairwise fun a b=>ltB b a=false)→Rises (onceB l)
 | [],_=>List.Pairwise.nil
 | [x],_=>by simp [onceB,Rises]
 | x::y::l,h=>by
  have h':=List.pairwise_cons.1 h
  have ih:=onceB_rises h'.2
  unfold onceB
  split
  ·exact ih
  ·rename_i hne
   refine List.pairwise_cons.2 ⟨fun z hz=>?_,ih⟩
   have hz':=mem_onceB.1 hz
   have hxy:ltB x y=true:=by
    cases k:ltB x y
    ·exact absurd (ltB_total k (h'.1 y (by simp))) hne
    ·rfl
   rcases List.mem_cons.1 hz' with e | e
   ·rw [e];exact hxy
   ·have h2:=(List.pairwise_cons.1 h'.2).1 z e
    cases k:ltB x z
    ·have hzx:=h'.1 z hz'
     have e2:=ltB_total k hzx
     subst e2
     rw [h2] at hxy
     cases hxy
    ·rfl
theorem once_merge {a b l:List I3} (hs:l.Pairwise fun a b=>ltB b a=false) (hm:∀ x,x ∈ l↔x ∈ a∨x ∈ b):onceB l=mergeB a b:=
 (onceB_rises hs).same (mergeB_rises a b) fun x=>by rw [mem_onceB,hm,mem_mergeB]


theorem flat_at {xs:List I3} {t:Nat} (ht:t<xs.length):(flat xs)[t*3]?=some (.int .i64 (xs.getD t (0,0,0)).1)∧(flat xs)[t*3+1]?=some (.int .i64 (xs.getD t (0,0,0)).2.1)∧(flat xs)[t*3+2]?=some (.int .i64 (xs.getD t (0,0,0)).2.2):=by
 have hsplit:flat xs=flat (xs.take t)++((xs.getD t (0,0,0)).cells++flat (xs.drop (t+1))):=by
  rw [← List.append_assoc,← flat_take_succ ht]
  unfold flat
  rw [← List.flatMap_append,List.take_append_drop]
 have hlt:(flat (xs.take t)).length=t*3:=by rw [flat_length,List.length_take];rw [Nat.min_eq_left (by omega)]
 have h:∀ j,j<3→(flat xs)[t*3+j]?=((xs.getD t (0,0,0)).cells)[j]?:=fun j hj=>by
  rw [hsplit,List.getElem?_append_right (by omega),hlt,Nat.add_sub_cancel_left,List.getElem?_append_left (by simp [I3.cells];omega)]
 exact ⟨by simpa [I3.cells] using h 0 (by omega),by simpa [I3.cells] using h 1 (by omega),by simpa [I3.cells] using h 2 (by omega)⟩


theorem info_bug:(Tryz.prog.info? 64).map (fun i=>(i.zero,i.size,i.bytes))=some (some (.agg #[.int .i64 0,.int .i64 0,.int .i64 0]),3,24):=by kernel_rfl

set_option linter.unusedSimpArgs false

theorem l04Less_is (x y:I3) (w:World):Calls Tryz.prog 173 #[x.val,y.val] w fun e w'=>e=.returned (.bool (ltB x y))∧Below w.heap.size w w':=by
 obtain ⟨a0,a1,a2⟩:=x
 obtain ⟨b0,b1,b2⟩:=y
 unfold I3.val
 by_cases h0:a0=b0
 ·subst h0
  by_cases h1:a1=b1
  ·subst h1
   have e:ltB (a0,a1,a2) (a0,a1,b2)=decide (a2<b2):=by simp [ltB]
   rw [e]
   clear e
   go_enter Tryz.func173,Tryz.ntmps173
   go_wp2
   go_ret
   exact ⟨rfl,by go_grown⟩
  ·have e:ltB (a0,a1,a2) (a0,b1,b2)=decide (a1<b1):=by simp [ltB,h1]
   rw [e]
   clear e
   go_enter Tryz.func173,Tryz.ntmps173
   go_wp2
   go_ret
   exact ⟨rfl,by go_grown⟩
 ·have e:ltB (a0,a1,a2) (b0,b1,b2)=decide (a0<b0):=by simp [ltB,h0]
  rw [e]
  clear e
  go_enter Tryz.func173,Tryz.ntmps173
  go_wp2
  go_ret
  exact ⟨rfl,by go_grown⟩

def leadB:List I3→I3→Nat
 | [],_=>0
 | x::xs,b=>if ltB x b then leadB xs b+1 else 0
theorem leadB_le:∀ (xs:List I3) (b:I3),leadB xs b≤xs.length
 | [],_=>Nat.le_refl _
 | x::xs,b=>by
  have:=leadB_le xs b
  unfold leadB
  split<;>simp<;>omega
theorem leadB_yes:∀ (xs:List I3) (b:I3) (k:Nat),k<leadB xs b→ltB (xs.getD k (0,0,0)) b=true
 | [],_,k,h=>by simp [leadB] at h
 | x::xs,b,k,h=>by
  unfold leadB at h
  split at h
  ·rename_i hx
   match k,h with
   | 0,_=>simpa using hx
   | k+1,h=>rw [List.getD_cons_succ];exact leadB_yes xs b k (by omega)
  ·omega
theorem leadB_no:∀ (xs:List I3) (b:I3),leadB xs b<xs.length→ltB (xs.getD (leadB xs b) (0,0,0)) b=false
 | [],_,h=>by simp [leadB] at h
 | x::xs,b,h=>by
  unfold leadB at h ⊢
  split
  ·rename_i hx
   rw [if_pos hx] at h
   rw [List.getD_cons_succ]
   exact leadB_no xs b (by simpa using h)
  ·rename_i hx
   simpa using hx
theorem putB_lead:∀ (xs:List I3) (b:I3),putB xs b=if leadB xs b<xs.length∧xs.getD (leadB xs b) (0,0,0)=b then xs else (xs.take (leadB xs b)++[b])++xs.drop (leadB xs b)
 | [],b=>by simp [putB,leadB]
 | x::xs,b=>by
  have ih:=putB_lead xs b
  unfold putB leadB
  split
  ·rename_i hx
   rw [ih]
   simp only [List.getD_cons_succ,List.length_cons,Nat.add_lt_add_iff_right,List.take_succ_cons,List.drop_succ_cons,List.cons_append]
   split<;>simp
  ·simp only [List.getD_cons_zero,List.length_cons,List.take_zero,List.drop_zero,List.nil_append,Nat.zero_lt_succ,true_and]
   split<;>simp

theorem slice_h3 {w:World} {b off len cap hi:Nat} {xs:List I3} (h:Instrs w (some ⟨b,off,none⟩) len cap xs) (h2:hi≤len) :
  (∀ W,(Instr.slice 34 (.slice (some ⟨b,off,none⟩) len cap) none (some (.int .i64 (hi:Int))) none).run Tryz.prog W=.ok (.slice (some ⟨b,off,none⟩) hi cap) W)∧Instrs w (some ⟨b,off,none⟩) hi cap (xs.take hi):=by
 obtain ⟨hl,hlc,hcm,hf,hcase⟩:=h
 have hhc:(hi:Int)≤(cap:Int):=by omega
 refine ⟨fun W=>?_,by rw [List.length_take];omega,by omega,by omega,fun x hx=>hf x (List.mem_of_mem_take hx),?_⟩
 ·go_simp
 ·rcases hcase with h0 | ⟨b',off',he,hb,hc⟩
  ·exact .inl (by omega)
  ·cases he
   refine .inr ⟨b,off,rfl,hb,fun t ht=>?_⟩
   have:=hc t (by omega)
   have e:(xs.take hi).getD t (0,0,0)=xs.getD t (0,0,0):=by simp [List.getD,List.getElem?_take,ht]
   rw [e]
   exact this
theorem slice_l3 {w:World} {b off len cap lo:Nat} {xs:List I3} (h:Instrs w (some ⟨b,off,none⟩) len cap xs) (h1:lo≤len) :
  ∃ o2,(∀ W,(Instr.slice 34 (.slice (some ⟨b,off,none⟩) len cap) (some (.int .i64 (lo:Int))) none none).run Tryz.prog W=.ok (.slice (some ⟨b,o2,none⟩) (len - lo) (cap - lo)) W)∧Instrs w (some ⟨b,o2,none⟩) (len - lo) (cap - lo) (xs.drop lo):=by
 obtain ⟨hl,hlc,hcm,hf,hcase⟩:=h
 have hlh:(lo:Int)≤(len:Int):=by omega
 by_cases hz:cap - lo=0
 ·refine ⟨off,fun W=>?_,by rw [List.length_drop];omega,by omega,by omega,fun x hx=>hf x (List.mem_of_mem_drop hx),.inl (by omega)⟩
  go_simp
  omega
 ·refine ⟨off+lo*3,fun W=>?_,by rw [List.length_drop];omega,by omega,by omega,fun x hx=>hf x (List.mem_of_mem_drop hx),?_⟩
  ·go_simp
   omega
  ·rcases hcase with h0 | ⟨b',off',he,hb,hc⟩
   ·exact .inl (by omega)
   ·cases he
    refine .inr ⟨b,off+lo*3,rfl,hb,fun t ht=>?_⟩
    have:=hc (lo+t) (by omega)
    have e:(xs.drop lo).getD t (0,0,0)=xs.getD (lo+t) (0,0,0):=by simp [List.getD]
    rw [e,show off+lo*3+t*3=off+(lo+t)*3 by omega]
    exact this
theorem instrs_news {w:World} {b off len cap:Nat} {xs:List I3} (h:Instrs w (some ⟨b,off,none⟩) len cap xs):∀ j u,(flat xs)[j]?=some u→w.cell? ((⟨b,off,none⟩:Addr).add j)=some u:=by
 intro j u hj
 obtain ⟨hl,_,_,_,hcase⟩:=h
 have hjl:j<xs.length*3:=by
  have:=(List.getElem?_eq_some_iff.1 hj).1
  rwa [flat_length] at this
 have hA:(⟨b,off,none⟩:Addr).add j=⟨b,off+j,none⟩:=by unfold Addr.add;split<;>simp_all
 rw [hA]
 rcases hcase with h0 | ⟨b',off',he,hb,hc⟩
 ·omega
 ·cases he
  have hq:j / 3<xs.length:=by omega
  obtain ⟨f0,f1,f2⟩:=flat_at hq
  obtain ⟨c0,c1,c2⟩:=hc (j / 3) (by omega)
  have hr:j % 3=0∨j % 3=1∨j % 3=2:=by omega
  rcases hr with hr | hr | hr
  ·have e:j / 3*3=j:=by omega
   rw [e] at f0
   rw [f0] at hj
   cases hj
   rw [show off+j=off+j / 3*3 by omega]
   exact c0
  ·have e:j / 3*3+1=j:=by omega
   rw [e] at f1
   rw [f1] at hj
   cases hj
   rw [show off+j=off+j / 3*3+1 by omega]
   exact c1
  ·have e:j / 3*3+2=j:=by omega
   rw [e] at f2
   rw [f2] at hj
   cases hj
   rw [show off+j=off+j / 3*3+2 by omega]
   exact c2
theorem flat_one (xs:List I3):∀ u ∈ flat xs,u.oneCell'=true:=by
 intro u hu
 obtain ⟨x,hx,hu⟩:=List.mem_flatMap.1 hu
 unfold I3.cells at hu
 simp at hu
 rcases hu with rfl | rfl | rfl<;>rfl
theorem flat_append (xs ys:List I3):flat (xs++ys)=flat xs++flat ys:=by simp [flat]
end Go.Proofs.YtifoggpohlegmaaGreatDoor
