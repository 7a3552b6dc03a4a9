/-
  Joined: OrdP, NrmP.
-/
import Derived.Test.YtifoggpohlegmaaGreatDoorProg
import Derived.Deep.RegionHeld3
import Derived.KernelRfl
import Derived.Tactics
import Derived.WalkKit
import Derived.WalkSpells
import Derived.WalkLawsBesides
import Derived.RegionTactic
import Derived.BigQuiet
import Derived.Deep.QuietTactic
import Derived.Deep.Slices
import Derived.Deep.Strs
import Derived.Deep.Fields
import Derived.ChangeSame
import Derived.ChangeSlices
import Derived.Lib.SmallJoins
import Derived.Handy

namespace Go.Proofs.YtifoggpohlegmaaGreatDoor
set_option maxRecDepth 100000
set_option maxHeartbeats 16000000
set_option linter.unusedVariables false

inductive Bef (D:Nat→Nat→Bool):Nat→Nat→Prop
 | one {i k:Nat}:i<k→D i k=true→Bef D i k
 | more {i j k:Nat}:Bef D i j→j<k→D j k=true→Bef D i k
theorem Bef.lt {D:Nat→Nat→Bool} {i k:Nat} (h:Bef D i k):i<k:=by
 induction h with
 | one h _=>exact h
 | more _ h _ ih=>omega
theorem Bef.trans {D:Nat→Nat→Bool} {i j k:Nat} (h:Bef D i j) (g:Bef D j k):Bef D i k:=by
 induction g with
 | one h1 h2=>exact .more h h1 h2
 | more _ h1 h2 ih=>exact .more ih h1 h2
theorem bef_iff {D:Nat→Nat→Bool} {i k:Nat}:Bef D i k↔∃ j,j<k∧D j k=true∧(i=j∨Bef D i j):=by
 constructor
 ·intro h
  cases h with
  | one h1 h2=>exact ⟨i,h1,h2,.inl rfl⟩
  | more h0 h1 h2=>exact ⟨_,h1,h2,.inr h0⟩
 ·rintro ⟨j,h1,h2,rfl | h3⟩
  ·exact .one h1 h2
  ·exact .more h3 h1 h2
def cntT (th:Nat→Nat) (t:Nat):Nat→Nat
 | 0=>0
 | n+1=>cntT th t n+(if th n=t then 1 else 0)
theorem cntT_mono (th:Nat→Nat) (t:Nat) {a b:Nat} (h:a≤b):cntT th t a≤cntT th t b:=by
 induction b with
 | zero =>
  have:a=0:=by omega
  subst this
  exact Nat.le_refl _
 | succ b ih =>
  by_cases e:a=b+1
  ·subst e;exact Nat.le_refl _
  ·have:=ih (by omega)
   show _≤cntT th t b+_
   omega
def rk (th:Nat→Nat) (i:Nat):Nat:=cntT th (th i) i+1
theorem rk_succ (th:Nat→Nat) (i:Nat):rk th i=cntT th (th i) (i+1):=by unfold rk;simp [cntT]
theorem rk_lt {th:Nat→Nat} {i j:Nat} (h:th i=th j) (hl:i<j):rk th i<rk th j:=by
 have h1:=cntT_mono th (th i) (show i+1≤j by omega)
 rw [rk_succ]
 unfold rk
 rw [← h]
 omega
theorem rk_le_iff {th:Nat→Nat} {i j:Nat} (h:th i=th j):rk th i≤rk th j↔i≤j:=by
 constructor
 ·intro h1
  by_cases h2:i≤j
  ·exact h2
  ·have:=rk_lt h.symm (show j<i by omega)
   omega
 ·intro h1
  by_cases h2:i=j
  ·subst h2;exact Nat.le_refl _
  ·have:=rk_lt h (show i<j by omega)
   omega
theorem cntT_last (th:Nat→Nat) (t:Nat):∀ n,0<cntT th t n→∃ i,i<n∧th i=t∧rk th i=cntT th t n
 | 0,h=>by simp [cntT] at h
 | n+1,h=>by
  by_cases e:th n=t
  ·exact ⟨n,by omega,e,by rw [rk_succ,e]⟩
  ·have h1:cntT th t (n+1)=cntT th t n:=by simp [cntT,e]
   rw [h1] at h ⊢
   obtain ⟨i,h2,h3,h4⟩:=cntT_last th t n h
   exact ⟨i,by omega,h3,h4⟩
def joinN (D:Nat→Nat→Bool) (k:Nat) (prev:Nat→Nat→Nat) (t:Nat):Nat→Nat
 | 0=>0
 | n+1=>if D n k then Nat.max (joinN D k prev t n) (prev n t) else joinN D k prev t n
def clkF (D:Nat→Nat→Bool) (th:Nat→Nat):Nat→Nat→Nat→Nat
 | 0,_,_=>0
 | n+1,j,t=>if j=n then joinN D n (clkF D th n) t n+(if t=th n then 1 else 0) else clkF D th n j t
def clk (D:Nat→Nat→Bool) (th:Nat→Nat) (k t:Nat):Nat:=clkF D th (k+1) k t
theorem clkF_clk (D:Nat→Nat→Bool) (th:Nat→Nat) (j t:Nat):∀ n,j<n→clkF D th n j t=clk D th j t
 | 0,h=>by omega
 | n+1,h=>by
  by_cases e:j=n
  ·subst e;rfl
  ·have h1:clkF D th (n+1) j t=clkF D th n j t:=by show (if j=n then _ else _)=_;rw [if_neg e]
   rw [h1]
   exact clkF_clk D th j t n (by omega)
theorem joinN_le {D:Nat→Nat→Bool} {k t x:Nat} {prev:Nat→Nat→Nat} (hx:0<x):∀ n,x≤joinN D k prev t n↔∃ j,j<n∧D j k=true∧x≤prev j t
 | 0=>by simp [joinN];omega
 | n+1=>by
  have ih:=joinN_le (D:=D) (k:=k) (t:=t) (x:=x) (prev:=prev) hx n
  by_cases hd:D n k=true
  ·have e:joinN D k prev t (n+1)=Nat.max (joinN D k prev t n) (prev n t):=by show (if D n k then _ else _)=_;rw [if_pos hd]
   rw [e]
   constructor
   ·intro h
    by_cases h1:x≤joinN D k prev t n
    ·obtain ⟨j,h2,h3,h4⟩:=ih.1 h1
     exact ⟨j,by omega,h3,h4⟩
    ·exact ⟨n,by omega,hd,by have h5:Nat.max (joinN D k prev t n) (prev n t)=max (joinN D k prev t n) (prev n t):=rfl;rw [h5] at h;omega⟩
   ·rintro ⟨j,h2,h3,h4⟩
    have h5:Nat.max (joinN D k prev t n) (prev n t)=max (joinN D k prev t n) (prev n t):=rfl
    rw [h5]
    by_cases h6:j=n
    ·subst h6;omega
    ·have:=ih.2 ⟨j,by omega,h3,h4⟩
     omega
  ·have e:joinN D k prev t (n+1)=joinN D k prev t n:=by show (if D n k then _ else _)=_;rw [if_neg hd]
   rw [e,ih]
   constructor
   ·rintro ⟨j,h2,h3,h4⟩
    exact ⟨j,by omega,h3,h4⟩
   ·rintro ⟨j,h2,h3,h4⟩
    refine ⟨j,?_,h3,h4⟩
    by_cases h6:j=n
    ·subst h6;exact absurd h3 hd
    ·omega
theorem joinN_eq (D:Nat→Nat→Bool) (th:Nat→Nat) (k t:Nat):∀ n,n≤k→joinN D k (clkF D th k) t n=joinN D k (clk D th) t n
 | 0,_=>rfl
 | n+1,h=>by
  have e1:=joinN_eq D th k t n (by omega)
  have e2:=clkF_clk D th n t k (by omega)
  show (if D n k then _ else _)=(if D n k then _ else _)
  rw [e1,e2]
theorem clk_eq (D:Nat→Nat→Bool) (th:Nat→Nat) (k t:Nat):clk D th k t=joinN D k (clk D th) t k+(if t=th k then 1 else 0):=by
 have h:clk D th k t=joinN D k (clkF D th k) t k+(if t=th k then 1 else 0):=by show (if k=k then _ else _)=_;rw [if_pos rfl]
 rw [h,joinN_eq D th k t k (Nat.le_refl _)]
theorem clk_le {D:Nat→Nat→Bool} {th:Nat→Nat} (hD:∀ i k,i<k→th i=th k→D i k=true):∀ k t x,0<x→(x≤clk D th k t↔∃ i,(i=k∨Bef D i k)∧th i=t∧x≤rk th i):=by
 intro k
 induction k using Nat.strongRecOn with
 | _ k ih =>
  intro t x hx
  have hj:∀ y,0<y→(y≤joinN D k (clk D th) t k↔∃ i,Bef D i k∧th i=t∧y≤rk th i):=by
   intro y hy
   rw [joinN_le hy]
   constructor
   ·rintro ⟨j,h1,h2,h3⟩
    obtain ⟨i,h4,h5,h6⟩:=(ih j h1 t y hy).1 h3
    exact ⟨i,bef_iff.2 ⟨j,h1,h2,h4⟩,h5,h6⟩
   ·rintro ⟨i,h4,h5,h6⟩
    obtain ⟨j,h1,h2,h3⟩:=bef_iff.1 h4
    exact ⟨j,h1,h2,(ih j h1 t y hy).2 ⟨i,h3,h5,h6⟩⟩
  rw [clk_eq]
  by_cases e:t=th k
  ·rw [if_pos e]
   have hc:joinN D k (clk D th) t k=cntT th t k:=by
    refine Nat.le_antisymm ?_ ?_
    ·by_cases h0:joinN D k (clk D th) t k=0
     ·omega
     ·obtain ⟨i,h1,h2,h3⟩:=(hj _ (by omega)).1 (Nat.le_refl _)
      have h4:=cntT_mono th t (show i+1≤k by have:=h1.lt;omega)
      rw [rk_succ,h2] at h3
      omega
    ·by_cases h0:cntT th t k=0
     ·omega
     ·obtain ⟨i,h1,h2,h3⟩:=cntT_last th t k (by omega)
      exact (hj _ (by omega)).2 ⟨i,.one h1 (hD i k h1 (by rw [h2,e])),h2,by omega⟩
   rw [hc]
   have hr:cntT th t k+1=rk th k:=by unfold rk;rw [e]
   rw [hr]
   constructor
   ·intro h
    exact ⟨k,.inl rfl,e.symm,h⟩
   ·rintro ⟨i,h1 | h1,h2,h3⟩
    ·subst h1;exact h3
    ·have:=rk_lt (th:=th) (show th i=th k by rw [h2,e]) h1.lt
     omega
  ·rw [if_neg e,Nat.add_zero,hj x hx]
   constructor
   ·rintro ⟨i,h1,h2,h3⟩
    exact ⟨i,.inr h1,h2,h3⟩
   ·rintro ⟨i,h1 | h1,h2,h3⟩
    ·subst h1;exact absurd h2.symm e
    ·exact ⟨i,h1,h2,h3⟩
theorem clk_own {D:Nat→Nat→Bool} {th:Nat→Nat} (hD:∀ i k,i<k→th i=th k→D i k=true) (k:Nat):clk D th k (th k)=rk th k:=by
 have h0:0<rk th k:=by unfold rk;omega
 refine Nat.le_antisymm ?_ ((clk_le hD k (th k) _ h0).2 ⟨k,.inl rfl,rfl,Nat.le_refl _⟩)
 have h1:=(clk_le hD k (th k) _ h0).2 ⟨k,.inl rfl,rfl,Nat.le_refl _⟩
 obtain ⟨i,h2,h3,h4⟩:=(clk_le hD k (th k) (clk D th k (th k)) (by omega)).1 (Nat.le_refl _)
 rcases h2 with h2 | h2
 ·subst h2;exact h4
 ·have:=rk_lt (th:=th) h3 h2.lt
  omega
theorem next_iff {D:Nat→Nat→Bool} {th:Nat→Nat} (hD:∀ i k,i<k→th i=th k→D i k=true) (taken:Nat→Nat) (k:Nat) :
  (clk D th k (th k)=taken (th k)+1∧∀ t,clk D th k t≤taken t+(if t=th k then 1 else 0))↔(taken (th k)<rk th k∧∀ i,Bef D i k→rk th i≤taken (th i)):=by
 have h0:∀ i,0<rk th i:=fun i=>by unfold rk;omega
 constructor
 ·rintro ⟨h1,h2⟩
  rw [clk_own hD] at h1
  refine ⟨by omega,fun i hi=>?_⟩
  have h3:=(clk_le hD k (th i) _ (h0 i)).2 ⟨i,.inr hi,rfl,Nat.le_refl _⟩
  have h4:=h2 (th i)
  by_cases e:th i=th k
  ·have:=rk_lt e hi.lt
   rw [e]
   omega
  ·rw [if_neg e] at h4
   omega
 ·rintro ⟨h1,h2⟩
  have hk:rk th k=taken (th k)+1:=by
   have h3:cntT th (th k) k≤taken (th k):=by
    by_cases e:cntT th (th k) k=0
    ·omega
    ·obtain ⟨i,h4,h5,h6⟩:=cntT_last th (th k) k (by omega)
     have h7:=h2 i (.one h4 (hD i k h4 h5))
     rw [h5] at h7
     omega
   have h8:rk th k=cntT th (th k) k+1:=rfl
   omega
  refine ⟨by rw [clk_own hD];exact hk,fun t=>?_⟩
  by_cases e:t=th k
  ·rw [if_pos e,e,clk_own hD]
   omega
  ·rw [if_neg e,Nat.add_zero]
   by_cases h9:clk D th k t=0
   ·omega
   ·obtain ⟨i,hi,ht,hr⟩:=(clk_le hD k t (clk D th k t) (by omega)).1 (Nat.le_refl _)
    rcases hi with hi | hi
    ·subst hi;exact absurd ht.symm e
    ·have:=h2 i hi
     rw [ht] at this
     omega


def leastT (ok:Nat→Bool) (th:Nat→Nat):Nat→Nat
 | 0=>3
 | n+1=>if ok n then Nat.min (leastT ok th n) (th n) else leastT ok th n
def bestS (ok:Nat→Bool) (th:Nat→Nat):Nat→Option Nat
 | 0=>none
 | n+1=>if ok n then (match bestS ok th n with | none=>some n | some b=>if th n<th b then some n else some b) else bestS ok th n
theorem best_least {ok:Nat→Bool} {th:Nat→Nat} (h3:∀ i,th i<3):∀ n,(bestS ok th n=none∧leastT ok th n=3∧∀ i,i<n→ok i=false)∨∃ b,bestS ok th n=some b∧b<n∧ok b=true∧leastT ok th n=th b
 | 0=>.inl ⟨rfl,rfl,fun i h=>by omega⟩
 | n+1=>by
  have ih:=best_least (ok:=ok) h3 n
  have e1:bestS ok th (n+1)=if ok n then (match bestS ok th n with | none=>some n | some b=>if th n<th b then some n else some b) else bestS ok th n:=rfl
  have e2:leastT ok th (n+1)=if ok n then Nat.min (leastT ok th n) (th n) else leastT ok th n:=rfl
  have hm:∀ a b:Nat,Nat.min a b=min a b:=fun _ _=>rfl
  have hn:=h3 n
  cases ho:ok n
  ·rw [e1,e2,ho]
   simp only [Bool.false_eq_true,if_false]
   rcases ih with ⟨h1,h2,h4⟩ | ⟨b,h1,h2,h4,h5⟩
   ·refine .inl ⟨h1,h2,fun i hi=>?_⟩
    by_cases e:i=n
    ·subst e;exact ho
    ·exact h4 i (by omega)
   ·exact .inr ⟨b,h1,by omega,h4,h5⟩
  ·rw [e1,e2,ho]
   simp only [if_true]
   rcases ih with ⟨h1,h2,h4⟩ | ⟨b,h1,h2,h4,h5⟩
   ·refine .inr ⟨n,by rw [h1],by omega,ho,?_⟩
    rw [h2,hm]
    omega
   ·rw [h1]
    simp only
    by_cases hl:th n<th b
    ·refine .inr ⟨n,by rw [if_pos hl],by omega,ho,?_⟩
     rw [h5,hm]
     omega
    ·refine .inr ⟨b,by rw [if_neg hl],by omega,h4,?_⟩
     rw [h5,hm]
     omega
theorem rk_inj {th:Nat→Nat} {i j:Nat} (h:th i=th j) (e:rk th i=rk th j):i=j:=by
 have h1:=(rk_le_iff h).1 (by omega)
 have h2:=(rk_le_iff h.symm).1 (by omega)
 omega
def okN (D:Nat→Nat→Bool) (th:Nat→Nat) (taken:Nat→Nat) (k:Nat):Bool:=decide (clk D th k (th k)=taken (th k)+1) && (decide (clk D th k 0≤taken 0+(if 0=th k then 1 else 0)) && (decide (clk D th k 1≤taken 1+(if 1=th k then 1 else 0)) && decide (clk D th k 2≤taken 2+(if 2=th k then 1 else 0))))
def allU (B:Nat→Nat→Bool) (used:Nat→Bool) (k:Nat):Nat→Bool
 | 0=>true
 | n+1=>allU B used k n && (used n || !B n k)
theorem allU_iff {B:Nat→Nat→Bool} {used:Nat→Bool} {k:Nat}:∀ n,allU B used k n=true↔∀ i,i<n→B i k=true→used i=true
 | 0=>by simp [allU]
 | n+1=>by
  have ih:=allU_iff (B:=B) (used:=used) (k:=k) n
  have e:allU B used k (n+1)=(allU B used k n && (used n || !B n k)):=rfl
  rw [e,Bool.and_eq_true,ih]
  constructor
  ·rintro ⟨h1,h2⟩ i hi hb
   by_cases h:i=n
   ·subst h
    rw [hb] at h2
    simpa using h2
   ·exact h1 i (by omega) hb
  ·intro h
   refine ⟨fun i hi hb=>h i (by omega) hb,?_⟩
   cases hb:B n k
   ·simp
   ·simp [h n (by omega) hb]
def okU (B:Nat→Nat→Bool) (n:Nat) (used:Nat→Bool) (k:Nat):Bool:=!used k && allU B used k n
theorem clk_small {D:Nat→Nat→Bool} {th:Nat→Nat} (hD:∀ i k,i<k→th i=th k→D i k=true) (h3:∀ i,th i<3) (k t:Nat) (ht:3≤t):clk D th k t=0:=by
 by_cases e:clk D th k t=0
 ·exact e
 ·obtain ⟨i,_,h,_⟩:=(clk_le hD k t (clk D th k t) (by omega)).1 (Nat.le_refl _)
  have:=h3 i
  omega
theorem ok_same {D B:Nat→Nat→Bool} {th:Nat→Nat} {n:Nat} (hD:∀ i k,i<k→th i=th k→D i k=true) (h3:∀ i,th i<3) (hB:∀ i k,i<n→k<n→(B i k=true↔Bef D i k)) {taken:Nat→Nat} {used:Nat→Bool} (hu:∀ i,i<n→(used i=true↔rk th i≤taken (th i))) {k:Nat} (hk:k<n):okN D th taken k=okU B n used k:=by
 have h1:okN D th taken k=true↔(clk D th k (th k)=taken (th k)+1∧∀ t,clk D th k t≤taken t+(if t=th k then 1 else 0)):=by
  unfold okN
  simp only [Bool.and_eq_true,decide_eq_true_eq]
  constructor
  ·rintro ⟨h,a,b,c⟩
   refine ⟨h,fun t=>?_⟩
   match t with
   | 0=>exact a
   | 1=>exact b
   | 2=>exact c
   | t+3=>rw [clk_small hD h3 k (t+3) (by omega)];omega
  ·rintro ⟨h,a⟩
   exact ⟨h,a 0,a 1,a 2⟩
 have h2:okU B n used k=true↔(taken (th k)<rk th k∧∀ i,Bef D i k→rk th i≤taken (th i)):=by
  unfold okU
  rw [Bool.and_eq_true,allU_iff]
  constructor
  ·rintro ⟨a,b⟩
   refine ⟨?_,fun i hi=>?_⟩
   ·by_cases e:rk th k≤taken (th k)
    ·rw [(hu k hk).2 e] at a;cases a
    ·omega
   ·have hl:i<n:=by have:=hi.lt;omega
    exact (hu i hl).1 (b i hl ((hB i k hl hk).2 hi))
  ·rintro ⟨a,b⟩
   refine ⟨?_,fun i hi hb=>(hu i hi).2 (b i ((hB i k hi hk).1 hb))⟩
   cases e:used k
   ·rfl
   ·have:=(hu k hk).1 e
    omega
 have h4:=next_iff hD taken k
 cases e1:okN D th taken k
 ·cases e2:okU B n used k
  ·rfl
  ·rw [h1.2 (h4.2 (h2.1 e2))] at e1;cases e1
 ·rw [h2.2 (h4.1 (h1.1 e1))]
def cntU (used:Nat→Bool):Nat→Nat
 | 0=>0
 | n+1=>cntU used n+(if used n then 1 else 0)
theorem cntU_left {used:Nat→Bool}:∀ n,cntU used n<n→∃ k,k<n∧used k=false∧∀ i,i<k→used i=true
 | 0,h=>by omega
 | n+1,h=>by
  by_cases h1:cntU used n<n
  ·obtain ⟨k,a,b,c⟩:=cntU_left n h1
   exact ⟨k,by omega,b,c⟩
  ·have hle:∀ m,cntU used m≤m:=fun m=>by
    induction m with
    | zero=>exact Nat.le_refl _
    | succ m ih=>show cntU used m+_≤_;split<;>omega
   have hall:∀ m,cntU used m=m→∀ i,i<m→used i=true:=fun m=>by
    induction m with
    | zero=>intro _ i hi;omega
    | succ m ih =>
     intro e i hi
     have e1:cntU used (m+1)=cntU used m+(if used m then 1 else 0):=rfl
     have e2:=hle m
     have e3:used m=true:=by
      cases hq:used m
      ·rw [e1,hq] at e;simp at e;omega
      ·rfl
     rw [e1,e3] at e
     simp at e
     by_cases hx:i=m
     ·subst hx;exact e3
     ·exact ih e i (by omega)
   have e0:cntU used n=n:=by have:=hle n;omega
   refine ⟨n,by omega,?_,hall n e0⟩
   cases hq:used n
   ·rfl
   ·have e1:cntU used (n+1)=cntU used n+(if used n then 1 else 0):=rfl
    rw [e1,hq,e0] at h
    simp at h
theorem cntU_put {used:Nat→Bool} {b:Nat} (h:used b=false):∀ n,b<n→cntU (fun i=>used i || i == b) n=cntU used n+1
 | 0,hb=>by omega
 | n+1,hb=>by
  have e1:cntU (fun i=>used i || i == b) (n+1)=cntU (fun i=>used i || i == b) n+(if (used n || n == b) then 1 else 0):=rfl
  have e2:cntU used (n+1)=cntU used n+(if used n then 1 else 0):=rfl
  rw [e1,e2]
  by_cases e:n=b
  ·subst e
   have hs:∀ m,m≤n→cntU (fun i=>used i || i == n) m=cntU used m:=fun m=>by
    induction m with
    | zero=>intro _;rfl
    | succ m ih =>
     intro hm
     show cntU (fun i=>used i || i == n) m+(if (used m || m == n) then 1 else 0)=cntU used m+(if used m then 1 else 0)
     have hne:(m == n)=false:=by simp;omega
     rw [ih (by omega),hne,Bool.or_false]
   rw [hs n (Nat.le_refl _),h]
   simp
  ·have hne:(n == b)=false:=by simp;omega
   rw [cntU_put h n (by omega),hne,Bool.or_false]
   omega
def stI (D:Nat→Nat→Bool) (th:Nat→Nat) (n:Nat):Nat→(Nat→Nat) × List Nat
 | 0=>(fun _=>0,[])
 | s+1=>(fun t=>(stI D th n s).1 t+(if t=leastT (okN D th (stI D th n s).1) th n then 1 else 0),(stI D th n s).2++[leastT (okN D th (stI D th n s).1) th n])
def stS (B:Nat→Nat→Bool) (th:Nat→Nat) (n:Nat):Nat→(Nat→Bool) × List Nat
 | 0=>(fun _=>false,[])
 | s+1=>match bestS (okU B n (stS B th n s).1) th n with
  | none=>stS B th n s
  | some b=>(fun i=>(stS B th n s).1 i || i == b,(stS B th n s).2++[th b])
theorem leastT_congr {f g:Nat→Bool} {th:Nat→Nat}:∀ n,(∀ k,k<n→f k=g k)→leastT f th n=leastT g th n
 | 0,_=>rfl
 | n+1,h=>by
  have ih:=leastT_congr (th:=th) n (fun k hk=>h k (by omega))
  show (if f n then _ else _)=(if g n then _ else _)
  rw [h n (by omega),ih]
theorem norm_same {D B:Nat→Nat→Bool} {th:Nat→Nat} {n:Nat} (hD:∀ i k,i<k→th i=th k→D i k=true) (h3:∀ i,th i<3) (hB:∀ i k,i<n→k<n→(B i k=true↔Bef D i k)):∀ s,s≤n→(stS B th n s).2=(stI D th n s).2∧(∀ i,i<n→((stS B th n s).1 i=true↔rk th i≤(stI D th n s).1 (th i)))∧cntU (stS B th n s).1 n=s∧(s<n→∃ b,bestS (okU B n (stS B th n s).1) th n=some b∧b<n∧leastT (okN D th (stI D th n s).1) th n=th b)
 | s,hs=>by
  have main:(stS B th n s).2=(stI D th n s).2∧(∀ i,i<n→((stS B th n s).1 i=true↔rk th i≤(stI D th n s).1 (th i)))∧cntU (stS B th n s).1 n=s:=by
   match s,hs with
   | 0,_ =>
    refine ⟨rfl,fun i hi=>?_,?_⟩
    ·have:¬ rk th i≤0:=by unfold rk;omega
     simp [stS,stI,this]
    ·have hz:∀ m,cntU (fun _=>false) m=0:=fun m=>by
      induction m with
      | zero=>rfl
      | succ m ih=>show cntU (fun _=>false) m+0=0;omega
     exact hz n
   | s+1,hs =>
    obtain ⟨h1,h2,h4,h5⟩:=norm_same hD h3 hB s (by omega)
    obtain ⟨b,hb,hbn,hl⟩:=h5 (by omega)
    have hok:okU B n (stS B th n s).1 b=true:=by
     rcases best_least (ok:=okU B n (stS B th n s).1) h3 n with ⟨e,_,_⟩ | ⟨b',e,_,h,_⟩
     ·rw [hb] at e;cases e
     ·rw [hb] at e
      cases e
      exact h
    have hub:(stS B th n s).1 b=false:=by
     unfold okU at hok
     cases e:(stS B th n s).1 b
     ·rfl
     ·rw [e] at hok;simp at hok
    have hoi:okN D th (stI D th n s).1 b=true:=by rw [ok_same hD h3 hB h2 hbn];exact hok
    have hrk:rk th b=(stI D th n s).1 (th b)+1:=by
     unfold okN at hoi
     simp only [Bool.and_eq_true,decide_eq_true_eq] at hoi
     rw [← clk_own hD]
     exact hoi.1
    have eS:stS B th n (s+1)=(fun i=>(stS B th n s).1 i || i == b,(stS B th n s).2++[th b]):=by
     show (match bestS (okU B n (stS B th n s).1) th n with | none=>_ | some b=>_)=_
     rw [hb]
    have eI:stI D th n (s+1)=(fun t=>(stI D th n s).1 t+(if t=th b then 1 else 0),(stI D th n s).2++[th b]):=by
     show (fun t=>(stI D th n s).1 t+(if t=leastT (okN D th (stI D th n s).1) th n then 1 else 0),(stI D th n s).2++[leastT (okN D th (stI D th n s).1) th n])=_
     rw [hl]
    rw [eS,eI]
    refine ⟨by simp only [h1],fun i hi=>?_,by simp only;rw [cntU_put hub n hbn,h4]⟩
    simp only
    by_cases et:th i=th b
    ·rw [if_pos et]
     have h6:=h2 i hi
     by_cases eb:i=b
     ·subst eb
      simp only [beq_self_eq_true,Bool.or_true,true_iff]
      omega
     ·have hne:(i == b)=false:=by simp [eb]
      rw [hne,Bool.or_false,h6]
      have h7:rk th i≠rk th b:=fun e=>eb (rk_inj et e)
      rw [et]
      omega
    ·have hne:(i == b)=false:=by
      simp only [beq_eq_false_iff_ne,ne_eq]
      intro e
      subst e
      exact et rfl
     rw [if_neg et,hne,Bool.or_false,Nat.add_zero]
     exact h2 i hi
  refine ⟨main.1,main.2.1,main.2.2,fun hlt=>?_⟩
  obtain ⟨k,hk,hu,ha⟩:=cntU_left n (show cntU (stS B th n s).1 n<n by rw [main.2.2];exact hlt)
  have hok:okU B n (stS B th n s).1 k=true:=by
   unfold okU
   rw [hu,Bool.and_eq_true,allU_iff]
   exact ⟨rfl,fun i hi hb=>ha i ((hB i k hi hk).1 hb).lt⟩
  rcases best_least (ok:=okU B n (stS B th n s).1) h3 n with ⟨_,_,h⟩ | ⟨b,e,hbn,_,hl⟩
  ·rw [h k hk] at hok;cases hok
  ·refine ⟨b,e,hbn,?_⟩
   rw [leastT_congr n (fun k hk=>ok_same hD h3 hB main.2.1 hk)]
   exact hl
end Go.Proofs.YtifoggpohlegmaaGreatDoor
