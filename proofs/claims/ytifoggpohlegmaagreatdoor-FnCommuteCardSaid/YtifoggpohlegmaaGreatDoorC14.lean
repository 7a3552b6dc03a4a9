/-
  Joined: NrmQ, MatP.
-/
import Derived.Test.YtifoggpohlegmaaGreatDoorC12
import Derived.Test.YtifoggpohlegmaaGreatDoorC13

namespace Go.Proofs.YtifoggpohlegmaaGreatDoor
set_option maxRecDepth 100000
set_option maxHeartbeats 16000000
set_option linter.unusedVariables false

theorem depM_symm (x y:I4):depM x y=depM y x:=by
 unfold depM
 by_cases h1:x.1=y.1
 ·simp [h1]
 ·have h1':¬ y.1=x.1:=fun e=>h1 e.symm
  by_cases h2:x.2.2.2=y.2.2.2
  ·simp only [h1,h1',h2,decide_false,Bool.false_or,decide_true,Bool.and_true]
   rw [Bool.and_comm (decide (x.2.2.1=1))]
  ·have h2':¬ y.2.2.2=x.2.2.2:=fun e=>h2 e.symm
   simp [h1,h1',h2,h2']
theorem depM_thread {x y:I4} (h:x.1=y.1):depM x y=true:=by unfold depM;simp [h]
def Free (es:List I4) (e:I4) (rest:List I4):Prop:=∃ a b,es=a++e::b∧rest=a++b∧∀ x ∈ a,depM x e=false
def Pick (es:List I4) (e:I4) (rest:List I4):Prop:=Free es e rest∧∀ e' rest',Free es e' rest'→e.1≤e'.1
inductive Nrm:List I4→List Int→Prop
 | nil:Nrm [] []
 | cons {es rest:List I4} {e:I4} {ts:List Int}:Pick es e rest→Nrm rest ts→Nrm es (e.1::ts)
def Sw1 (es es':List I4):Prop:=∃ a x y b,es=a++x::y::b∧es'=a++y::x::b∧depM x y=false
inductive Sw:List I4→List I4→Prop
 | refl (es:List I4):Sw es es
 | step {es es' es'':List I4}:Sw es es'→Sw1 es' es''→Sw es es''
theorem Sw1.symm {es es':List I4} (h:Sw1 es es'):Sw1 es' es:=by
 obtain ⟨a,x,y,b,h1,h2,h3⟩:=h
 exact ⟨a,y,x,b,h2,h1,by rw [depM_symm];exact h3⟩
theorem Sw.trans {a b c:List I4} (h:Sw a b) (g:Sw b c):Sw a c:=by
 induction g with
 | refl=>exact h
 | step _ s ih=>exact .step ih s
theorem Sw.symm {a b:List I4} (h:Sw a b):Sw b a:=by
 induction h with
 | refl=>exact .refl _
 | step _ s ih=>exact (Sw.step (.refl _) s.symm).trans ih
theorem Sw1.cons {es es':List I4} (e:I4) (h:Sw1 es es'):Sw1 (e::es) (e::es'):=by
 obtain ⟨a,x,y,b,h1,h2,h3⟩:=h
 exact ⟨e::a,x,y,b,by rw [h1];rfl,by rw [h2];rfl,h3⟩
theorem Sw.cons {es es':List I4} (e:I4) (h:Sw es es'):Sw (e::es) (e::es'):=by
 induction h with
 | refl=>exact .refl _
 | step _ s ih=>exact .step ih (s.cons e)
theorem part_two {a b c d:List I4} {e f:I4} (h:a++e::b=c++f::d):(a=c∧e=f∧b=d)∨(∃ m,c=a++e::m∧b=m++f::d)∨(∃ m,a=c++f::m∧d=m++e::b):=by
 rcases List.append_eq_append_iff.1 h with ⟨m,h1,h2⟩ | ⟨m,h1,h2⟩
 ·cases m with
  | nil =>
   simp at h1 h2
   exact .inl ⟨h1.symm,h2.1,h2.2⟩
  | cons g m =>
   simp at h2
   exact .inr (.inl ⟨m,by rw [h1,← h2.1],h2.2⟩)
 ·cases m with
  | nil =>
   simp at h1 h2
   exact .inl ⟨h1,h2.1.symm,h2.2.symm⟩
  | cons g m =>
   simp at h2
   exact .inr (.inr ⟨m,by rw [h1,← h2.1],h2.2⟩)
theorem free_one {es rest rest':List I4} {e e':I4} (h:Free es e rest) (h':Free es e' rest') (ht:e.1=e'.1):e=e'∧rest=rest':=by
 obtain ⟨a,b,h1,h2,h3⟩:=h
 obtain ⟨c,d,g1,g2,g3⟩:=h'
 rcases part_two (h1.symm.trans g1) with ⟨r1,r2,r3⟩ | ⟨m,r1,r2⟩ | ⟨m,r1,r2⟩
 ·exact ⟨r2,by rw [h2,g2,r1,r3]⟩
 ·have:=g3 e (by rw [r1];simp)
  rw [depM_thread ht] at this
  cases this
 ·have:=h3 e' (by rw [r1];simp)
  rw [depM_thread ht.symm] at this
  cases this
theorem pick_one {es rest rest':List I4} {e e':I4} (h:Pick es e rest) (h':Pick es e' rest'):e=e'∧rest=rest':=by
 have h1:=h.2 _ _ h'.1
 have h2:=h'.2 _ _ h.1
 exact free_one h.1 h'.1 (by omega)
theorem nrm_one {es:List I4} {ts ts':List Int} (h:Nrm es ts) (h':Nrm es ts'):ts=ts':=by
 induction h generalizing ts' with
 | nil =>
  cases h' with
  | nil=>rfl
  | cons p _=>obtain ⟨⟨a,b,h1,_⟩,_⟩:=p;simp at h1
 | cons p n ih =>
  cases h' with
  | nil=>obtain ⟨⟨a,b,h1,_⟩,_⟩:=p;simp at h1
  | cons p' n' =>
   obtain ⟨rfl,rfl⟩:=pick_one p p'
   rw [ih n']
theorem free_sw {es es' rest:List I4} {e:I4} (h:Free es e rest) (s:Sw1 es es'):∃ rest',Free es' e rest'∧(rest=rest'∨Sw1 rest rest'):=by
 obtain ⟨a,b,h1,h2,h3⟩:=h
 obtain ⟨p,x,y,q,s1,s2,s3⟩:=s
 rcases part_two (h1.symm.trans s1) with ⟨r1,r2,r3⟩ | ⟨m,r1,r2⟩ | ⟨m,r1,r2⟩
 ·-- e is x
  subst r1 r2 r3
  refine ⟨a++y::q,⟨a++[y],q,by rw [s2];simp,by simp,?_⟩,.inl h2⟩
  intro z hz
  simp at hz
  rcases hz with hz | hz
  ·exact h3 z hz
  ·subst hz;rw [depM_symm];exact s3
 ·-- e before x
  refine ⟨a++(m++y::x::q),⟨a,m++y::x::q,by rw [s2,r1];simp,rfl,h3⟩,.inr ⟨a++m,x,y,q,by rw [h2,r2];simp,by simp,s3⟩⟩
 ·-- e behind x
  cases m with
  | nil =>
   simp at r2
   obtain ⟨r2,r4⟩:=r2
   subst r2 r4
   refine ⟨p++x::q,⟨p,x::q,s2,rfl,fun z hz=>h3 z (by rw [r1];simp [hz])⟩,.inl (by rw [h2,r1];simp)⟩
  | cons g m =>
   simp at r2
   obtain ⟨r2,r4⟩:=r2
   subst r2
   refine ⟨p++y::x::(m++b),⟨p++y::x::m,b,by rw [s2,r4];simp,by simp,?_⟩,.inr ⟨p,x,y,m++b,by rw [h2,r1];simp,rfl,s3⟩⟩
   intro z hz
   refine h3 z ?_
   rw [r1]
   simp at hz ⊢
   rcases hz with hz | hz | hz | hz
   ·exact .inl hz
   ·exact .inr (.inr (.inl hz))
   ·exact .inr (.inl hz)
   ·exact .inr (.inr (.inr hz))
theorem pick_sw {es es' rest:List I4} {e:I4} (h:Pick es e rest) (s:Sw1 es es'):∃ rest',Pick es' e rest'∧(rest=rest'∨Sw1 rest rest'):=by
 obtain ⟨rest',f,r⟩:=free_sw h.1 s
 refine ⟨rest',⟨f,fun e' rest'' f'=>?_⟩,r⟩
 obtain ⟨r3,f3,_⟩:=free_sw f' s.symm
 exact h.2 _ _ f3
theorem nrm_sw1 {es:List I4} {ts:List Int} (h:Nrm es ts):∀ {es':List I4},Sw1 es es'→Nrm es' ts:=by
 induction h with
 | nil =>
  intro es' s
  obtain ⟨a,x,y,b,h1,_⟩:=s
  simp at h1
 | cons p n ih =>
  intro es' s
  obtain ⟨rest',p',r⟩:=pick_sw p s
  rcases r with rfl | r
  ·exact .cons p' n
  ·exact .cons p' (ih r)
theorem nrm_sw {es es':List I4} {ts:List Int} (h:Nrm es ts) (s:Sw es es'):Nrm es' ts:=by
 induction s with
 | refl=>exact h
 | step _ s ih=>exact nrm_sw1 ih s


noncomputable def befB (D:Nat→Nat→Bool) (i k:Nat):Bool:=@decide (Bef D i k) (Classical.propDecidable _)
theorem befB_iff {D:Nat→Nat→Bool} {i k:Nat}:befB D i k=true↔Bef D i k:=by
 unfold befB
 exact @decide_eq_true_iff _ (Classical.propDecidable _)
theorem bool_ext {a b:Bool} (h:a=true↔b=true):a=b:=by
 cases a<;>cases b<;>simp_all
noncomputable def colB (D:Nat→Nat→Bool) (k i h:Nat):Bool:=@decide (∃ j,i≤j∧j<k∧D j k=true∧(h=j∨Bef D h j)) (Classical.propDecidable _)
theorem colB_iff {D:Nat→Nat→Bool} {k i h:Nat}:colB D k i h=true↔∃ j,i≤j∧j<k∧D j k=true∧(h=j∨Bef D h j):=by
 unfold colB
 exact @decide_eq_true_iff _ (Classical.propDecidable _)
noncomputable def midB (D:Nat→Nat→Bool) (k i c h:Nat):Bool:=colB D k (i+1) h || (h == i || (decide (h<c) && befB D h i))
theorem colB_top (D:Nat→Nat→Bool) (k h:Nat):colB D k k h=false:=by
 cases e:colB D k k h
 ·rfl
 ·obtain ⟨j,h1,h2,_⟩:=colB_iff.1 e
  omega
theorem colB_skip {D:Nat→Nat→Bool} {k i:Nat} (hd:D i k=false) (h:Nat):colB D k i h=colB D k (i+1) h:=by
 refine bool_ext ?_
 rw [colB_iff,colB_iff]
 constructor
 ·rintro ⟨j,h1,h2,h3,h4⟩
  refine ⟨j,?_,h2,h3,h4⟩
  by_cases e:i=j
  ·subst e;rw [hd] at h3;cases h3
  ·omega
 ·rintro ⟨j,h1,h2,h3,h4⟩
  exact ⟨j,by omega,h2,h3,h4⟩
theorem midB_zero (D:Nat→Nat→Bool) (k i h:Nat):midB D k i 0 h=(colB D k (i+1) h || h == i):=by simp [midB]
theorem midB_succ (D:Nat→Nat→Bool) (k i c h:Nat):midB D k i (c+1) h=(midB D k i c h || (h == c && befB D c i)):=by
 refine bool_ext ?_
 unfold midB
 simp only [Bool.or_eq_true,Bool.and_eq_true,decide_eq_true_eq,beq_iff_eq]
 constructor
 ·rintro (h1 | h1 | ⟨h1,h2⟩)
  ·exact .inl (.inl h1)
  ·exact .inl (.inr (.inl h1))
  ·by_cases e:h=c
   ·exact .inr ⟨e,by rw [← e];exact h2⟩
   ·exact .inl (.inr (.inr ⟨by omega,h2⟩))
 ·rintro ((h1 | h1 | ⟨h1,h2⟩) | ⟨h1,h2⟩)
  ·exact .inl h1
  ·exact .inr (.inl h1)
  ·exact .inr (.inr ⟨by omega,h2⟩)
  ·exact .inr (.inr ⟨by omega,by rw [h1];exact h2⟩)
theorem midB_end {D:Nat→Nat→Bool} {k i:Nat} (hd:D i k=true) (hi:i<k) (h:Nat):midB D k i i h=colB D k i h:=by
 refine bool_ext ?_
 unfold midB
 simp only [Bool.or_eq_true,Bool.and_eq_true,decide_eq_true_eq,beq_iff_eq]
 rw [colB_iff,colB_iff,befB_iff]
 constructor
 ·rintro (⟨j,h1,h2,h3,h4⟩ | h1 | ⟨h1,h2⟩)
  ·exact ⟨j,by omega,h2,h3,h4⟩
  ·exact ⟨i,Nat.le_refl _,hi,hd,.inl h1⟩
  ·exact ⟨i,Nat.le_refl _,hi,hd,.inr h2⟩
 ·rintro ⟨j,h1,h2,h3,h4⟩
  by_cases e:i=j
  ·subst e
   rcases h4 with h4 | h4
   ·exact .inr (.inl h4)
   ·exact .inr (.inr ⟨h4.lt,h4⟩)
  ·exact .inl ⟨j,by omega,h2,h3,h4⟩
theorem colB_all (D:Nat→Nat→Bool) (k h:Nat):colB D k 0 h=befB D h k:=by
 refine bool_ext ?_
 rw [colB_iff,befB_iff,bef_iff]
 constructor
 ·rintro ⟨j,_,h2,h3,h4⟩
  exact ⟨j,h2,h3,h4⟩
 ·rintro ⟨j,h2,h3,h4⟩
  exact ⟨j,by omega,h2,h3,h4⟩

end Go.Proofs.YtifoggpohlegmaaGreatDoor
