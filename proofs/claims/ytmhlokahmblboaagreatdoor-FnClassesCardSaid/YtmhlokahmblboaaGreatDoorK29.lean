/-
  Joined: FulP, CmtP, Evs, TakM, RpE, CmpB, SortL, CatB, SrtB.
-/
import Derived.Stop.Asserts
import Derived.Recover
import Derived.Shelf.SlSortCmp.Insertion
import Derived.Shelf.SlSortCmp.NoneTotal
import Derived.Shelf.Spec.SlicesGrow
import Derived.Laws.AppendOwnNone
import Derived.Test.YtmhlokahmblboaaGreatDoorK27
import Derived.Test.YtmhlokahmblboaaGreatDoorK28

namespace Go.Proofs.YtmhlokahmblboaaGreatDoor
set_option maxRecDepth 100000
set_option maxHeartbeats 16000000
set_option linter.unusedVariables false

section
variable {σ : Type} [DecidableEq σ]
abbrev Zp (σ:Type):=σ × Nat × Int
def SQ (S:List (Zp σ)) (x:σ):Bool:=S.any fun r=>decide (r.1=x)
theorem Vn {S:List (Zp σ)} {x:σ}:SQ S x=true↔x ∈ S.map (·.1):=by
 unfold SQ
 simp
def XW (i:Nat) (S:List (Zp σ)) (kx:Int × σ):List (Zp σ):=if SQ S kx.2 then S else S++[(kx.2,i,kx.1)]
def onS (i:Nat) (S:List (Zp σ)) (ts:List (Int × σ)):List (Zp σ):=ts.foldl (XW i) S
def WQ (nx:σ→List (Int × σ)):Nat→Nat→List (Zp σ)→List (Zp σ)
 | 0,_,S=>S
 | f+1,i,S=>match S[i]? with
  | none=>S
  | some r=>WQ nx f (i+1) (onS i S (nx r.1))
theorem H4 (i:Nat) (S:List (Zp σ)) (kx:Int × σ):S <+: XW i S kx:=by
 unfold XW
 split
 ·exact List.prefix_refl _
 exact List.prefix_append _ _
theorem WZ (i:Nat):∀ (ts:List (Int × σ)) (S:List (Zp σ)),S <+: onS i S ts
 | [],S=>List.prefix_refl _
 | t::ts,S=>(H4 i S t).trans (WZ i ts (XW i S t))
theorem TR (nx:σ→List (Int × σ)):∀ (f i:Nat) (S:List (Zp σ)),S <+: WQ nx f i S
 | 0,_,S=>List.prefix_refl _
 | f+1,i,S=>by
  unfold WQ
  split
  ·exact List.prefix_refl _
  exact (WZ i _ S).trans (TR nx f (i+1) _)
theorem Qa {nx:σ→List (Int × σ)} {f i:Nat} {S:List (Zp σ)} (h:S.length≤i):WQ nx f i S=S:=by
 cases f with
 | zero=>rfl
 | succ f=>unfold WQ;rw [List.getElem?_eq_none h]
theorem Re {nx:σ→List (Int × σ)} {f i:Nat} {S:List (Zp σ)} (h:i<S.length):WQ nx (f+1) i S=WQ nx f (i+1) (onS i S (nx (S[i]'h).1)):=by
 conv=>lhs;unfold WQ
 rw [List.getElem?_eq_getElem h]
theorem Tz (i:Nat) (S:List (Zp σ)) (t:Int × σ) (ts:List (Int × σ)):onS i S (t::ts)=onS i (XW i S t) ts:=rfl
theorem MW {i:Nat} {S:List (Zp σ)} {kx:Int × σ} (h:(S.map (·.1)).Nodup):((XW i S kx).map (·.1)).Nodup:=by
 unfold XW
 split
 ·exact h
 rename_i hn
 rw [List.map_append,List.nodup_append]
 refine ⟨h,by simp,?_⟩
 intro a ha b hb
 simp at hb
 subst hb
 intro e
 subst e
 exact hn (Vn.2 ha)
theorem QX {i:Nat}:∀ (ts:List (Int × σ)) (S:List (Zp σ)),(S.map (·.1)).Nodup→((onS i S ts).map (·.1)).Nodup
 | [],S,h=>h
 | t::ts,S,h=>QX ts _ (MW h)
theorem Qb {nx:σ→List (Int × σ)}:∀ (f i:Nat) (S:List (Zp σ)),(S.map (·.1)).Nodup→((WQ nx f i S).map (·.1)).Nodup
 | 0,_,S,h=>h
 | f+1,i,S,h=>by
  unfold WQ
  split
  ·exact h
  exact Qb f (i+1) _ (QX _ S h)
theorem N2 (i:Nat) (S:List (Zp σ)) (kx:Int × σ):kx.2 ∈ (XW i S kx).map (·.1):=by
 unfold XW
 split
 ·rename_i h;exact Vn.1 h
 simp
omit [DecidableEq σ] in
theorem LA {S T:List (Zp σ)} {x:σ} (h:S <+: T) (hx:x ∈ S.map (·.1)):x ∈ T.map (·.1):=by
 obtain ⟨r,rfl⟩:=h
 rw [List.map_append]
 exact List.mem_append_left _ hx
theorem Lu {i:Nat}:∀ (ts:List (Int × σ)) (S:List (Zp σ)) (t:Int × σ),t ∈ ts→t.2 ∈ (onS i S ts).map (·.1)
 | [],S,t,h=>by simp at h
 | u::ts,S,t,h=>by
  rw [Tz]
  rcases List.mem_cons.1 h with rfl | h
  ·exact LA (WZ i ts _) (N2 i S t)
  exact Lu ts _ t h
theorem SM {nx:σ→List (Int × σ)}:∀ (f i:Nat) (S:List (Zp σ)),(∀ j r,j<i→S[j]?=some r→∀ t ∈ nx r.1,t.2 ∈ S.map (·.1))→i≤S.length→(WQ nx f i S).length≤i+f →
  ∀ r ∈ WQ nx f i S,∀ t ∈ nx r.1,t.2 ∈ (WQ nx f i S).map (·.1)
 | 0,i,S,h,hi,hl=>by
  intro r hr t ht
  obtain ⟨j,hj,rfl⟩:=List.getElem_of_mem hr
  have hl':S.length≤i:=hl
  exact h j _ (by have:j<S.length:=hj;omega) (List.getElem?_eq_getElem hj) t ht
 | f+1,i,S,h,hi,hl=>by
  by_cases he:i<S.length
  ·rw [Re he] at hl ⊢
   refine SM f (i+1) _ ?_ ?_ (by omega)
   ·intro j r hj hr t ht
    obtain ⟨rest,hrest⟩:=WZ i (nx (S[i]'he).1) S
    have hjS:j<S.length:=by omega
    have hr':S[j]?=some r:=by
     rw [← hrest,List.getElem?_append_left hjS] at hr
     exact hr
    by_cases e:j=i
    ·subst e
     rw [List.getElem?_eq_getElem he] at hr'
     cases hr'
     exact Lu _ S t ht
    exact LA ⟨rest,hrest⟩ (h j r (by omega) hr' t ht)
   have:=(WZ i (nx (S[i]'he).1) S).length_le
   omega
  rw [Qa (by omega)] at hl ⊢
  intro r hr t ht
  obtain ⟨j,hj,rfl⟩:=List.getElem_of_mem hr
  exact h j _ (by omega) (List.getElem?_eq_getElem hj) t ht
def PZ (nx:σ→List (Int × σ)) (S:List (Zp σ)):Prop:=∀ j r,0<j→S[j]?=some r→r.2.1<j∧∃ q,S[r.2.1]?=some q∧(r.2.2,r.1) ∈ nx q.1
theorem K8 {nx:σ→List (Int × σ)} {i:Nat} {S:List (Zp σ)} {kx:Int × σ} {q:Zp σ} (h:PZ nx S) (hq:S[i]?=some q) (hm:kx ∈ nx q.1):PZ nx (XW i S kx)∧(XW i S kx)[i]?=some q:=by
 have hi:i<S.length:=(List.getElem?_eq_some_iff.1 hq).1
 unfold XW
 split
 ·exact ⟨h,hq⟩
 refine ⟨fun j r hj hr=>?_,by rw [List.getElem?_append_left hi];exact hq⟩
 by_cases hjl:j<S.length
 ·rw [List.getElem?_append_left hjl] at hr
  obtain ⟨h1,q',h2,h3⟩:=h j r hj hr
  exact ⟨h1,q',by rw [List.getElem?_append_left (by omega)];exact h2,h3⟩
 have e:j=S.length:=by
  have:=(List.getElem?_eq_some_iff.1 hr).1
  simp at this
  omega
 subst e
 simp at hr
 subst hr
 exact ⟨hi,q,by rw [List.getElem?_append_left hi];exact hq,hm⟩
theorem NS {nx:σ→List (Int × σ)} {i:Nat} {q:Zp σ}:∀ (ts:List (Int × σ)) (S:List (Zp σ)),PZ nx S→S[i]?=some q→(∀ t ∈ ts,t ∈ nx q.1)→PZ nx (onS i S ts)
 | [],S,h,_,_=>h
 | t::ts,S,h,hq,hm=>by
  obtain ⟨h1,h2⟩:=K8 h hq (hm t (by simp))
  exact NS ts _ h1 h2 (fun u hu=>hm u (by simp [hu]))
theorem Q8 {nx:σ→List (Int × σ)}:∀ (f i:Nat) (S:List (Zp σ)),PZ nx S→PZ nx (WQ nx f i S)
 | 0,_,S,h=>h
 | f+1,i,S,h=>by
  unfold WQ
  split
  ·exact h
  rename_i r hr
  exact Q8 f (i+1) _ (NS _ S h hr (fun t ht=>ht))
end

open Go.RowKit
set_option linter.unusedSimpArgs false

def pcC (m:V4) (x:I3) (k:Nat):Int:=if x.1=7∧m.2.2.2.getD (k*2+x.2.1.toNat) 0≠0 then x.2.2 else m.1.getD k 0+1
def shC (m:V4) (x:I3) (k:Nat):List Int:=if x.1=2 then m.2.1.set x.2.1.toNat (m.2.2.2.getD (k*2+x.2.2.toNat) 0) else m.2.1
def lkC (m:V4) (x:I3) (k:Nat):List Int:=if x.1=5 then m.2.2.1.set x.2.1.toNat (k+1) else if x.1=6∧m.2.2.1.getD x.2.1.toNat 0=k+1 then m.2.2.1.set x.2.1.toNat 0 else m.2.2.1
def rgC (m:V4) (x:I3) (k:Nat):List Int:=if x.1=1 then m.2.2.2.set (k*2+x.2.1.toNat) (m.2.1.getD x.2.2.toNat 0) else if x.1=3 then m.2.2.2.set (k*2+x.2.1.toNat) x.2.2 else if x.1=4 then m.2.2.2.set (k*2+x.2.1.toNat) ((m.2.2.2.getD (k*2+x.2.1.toNat) 0+x.2.2) % 10) else m.2.2.2
theorem Yl (m:V4) (x:I3) (k:Nat):(ZC m x k).1=(m.1.set k (pcC m x k),shC m x k,lkC m x k,rgC m x k):=by
 unfold ZC pcC shC lkC rgC
 rcases Wi x with h | h | h | h | h | h | h | h | ⟨h1,h2,h3,h4,h5,h6,h7,h8⟩
 ·simp [h]
 ·simp [h]
 ·simp [h]
 ·simp [h]
 ·simp [h]
 ·simp [h];split<;>simp
 ·simp [h];split<;>simp_all
 ·simp [h];split<;>simp
 simp [h1,h2,h3,h4,h5,h6,h7];split<;>simp
theorem LC {k l:Nat} (h:k≠l) {a b:Int} (ha:0≤a∧a≤1) (hb:0≤b∧b≤1):k*2+a.toNat≠l*2+b.toNat:=by omega
theorem Xq {x:I3} (h:okI x=true):(x.1≠2→0≤x.2.1∧x.2.1≤1)∧(x.1=1→0≤x.2.2∧x.2.2≤3)∧(x.1=2→(0≤x.2.1∧x.2.1≤3)∧0≤x.2.2∧x.2.2≤1):=by
 unfold okI at h
 simp only [inB,Bool.and_eq_true,decide_eq_true_eq] at h
 repeat' split at h
 all_goals simp_all
def W7 (x y:I3):Prop:=0≤X3 x∧X3 x=X3 y∧¬ (x.1=1∧y.1=1)
theorem WN {m:V4} {y:I3} {k l:Nat} (h:k≠l) (hy:okI y=true) {a:Int} (ha:0≤a∧a≤1):(rgC m y l).getD (k*2+a.toNat) 0=m.2.2.2.getD (k*2+a.toNat) 0:=by
 have hb:=Xq hy
 unfold rgC
 repeat' split
 all_goals first
  | rfl
  | (refine XD (LC h ha (hb.1 ?_));omega)
theorem LH {m:V4} {x y:I3} {l:Nat} (hx:okI x=true) (hy:okI y=true) (hc:¬ W7 x y) (h1:x.1=1):(shC m y l).getD x.2.2.toNat 0=m.2.1.getD x.2.2.toNat 0:=by
 have ha:=Xq hx
 have hb:=Xq hy
 unfold shC
 split
 ·rename_i h2
  refine XD (fun e=>hc ?_)
  have:=ha.2.1 h1
  have:=(hb.2.2 h2).1
  unfold W7 X3
  simp [h1,h2]
  omega
 rfl
theorem S9 {m:V4} {x y:I3} {l:Nat} (hx:okI x=true) (hy:okI y=true) (hc:¬ W7 x y) (h1:x.1=5∨x.1=6):(lkC m y l).getD x.2.1.toNat 0=m.2.2.1.getD x.2.1.toNat 0:=by
 have ha:=(Xq hx).1
 have hb:=(Xq hy).1
 have key:y.1=5∨y.1=6→x.2.1.toNat≠y.2.1.toNat:=fun h2 e=>hc (by
  have h3:=ha (by omega)
  have h4:=hb (by omega)
  have hxo:X3 x=4+x.2.1:=by unfold X3;rw [if_neg (by omega),if_neg (by omega),if_pos h1]
  have hyo:X3 y=4+y.2.1:=by unfold X3;rw [if_neg (by omega),if_neg (by omega),if_pos h2]
  refine ⟨by omega,by rw [hxo,hyo];omega,by omega⟩)
 unfold lkC
 repeat' split
 ·exact XD (key (by omega))
 ·exact XD (key (by omega))
 rfl
theorem Vv {x y:I3} (h:¬ W7 x y):¬ W7 y x:=fun ⟨a,b,c⟩=>h ⟨by omega,b.symm,fun e=>c ⟨e.2,e.1⟩⟩
theorem NZ {m:V4} {x y:I3} {k l:Nat} (h:k≠l) (hx:okI x=true) (hy:okI y=true):pcC (ZC m y l).1 x k=pcC m x k:=by
 rw [Yl]
 have ha:=Xq hx
 unfold pcC
 simp only
 rw [XD h]
 by_cases h7:x.1=7
 ·rw [WN h hy (ha.1 (by omega))]
 simp [h7]
def K7 (u:Option Int) (R:List Int) (i:Nat):List Int:=match u with | none=>R | some z=>R.set i z
theorem PX {m:V4} {x y:I3} {k l:Nat} (h:k≠l) (hx:okI x=true) (hy:okI y=true) (hc:¬ W7 x y):(ZC (ZC m x k).1 y l).1=(ZC (ZC m y l).1 x k).1:=by
 have hc':=Vv hc
 have bx:=Xq hx
 have by':=Xq hy
 have p1:=NZ (m:=m) h hx hy
 have p2:=NZ (m:=m) (Ne.symm h) hy hx
 rw [Yl (ZC m x k).1,Yl (ZC m y l).1,p1,p2]
 have e1:(ZC m x k).1.1=m.1.set k (pcC m x k):=by rw [Yl]
 have e2:(ZC m y l).1.1=m.1.set l (pcC m y l):=by rw [Yl]
 have hsx:(ZC m x k).1.2.1=shC m x k:=by rw [Yl]
 have hsy:(ZC m y l).1.2.1=shC m y l:=by rw [Yl]
 have hlx:(ZC m x k).1.2.2.1=lkC m x k:=by rw [Yl]
 have hly:(ZC m y l).1.2.2.1=lkC m y l:=by rw [Yl]
 have hrx:(ZC m x k).1.2.2.2=rgC m x k:=by rw [Yl]
 have hry:(ZC m y l).1.2.2.2=rgC m y l:=by rw [Yl]
 refine Prod.ext ?_ (Prod.ext ?_ (Prod.ext ?_ ?_))
 ·simp only
  rw [e1,e2,List.set_comm _ _ h]
 ·simp only
  unfold shC
  rw [hsx,hsy,hrx,hry]
  by_cases x2:x.1=2
  ·have rx:=WN (m:=m) (y:=y) h hy (bx.2.2 x2).2
   by_cases y2:y.1=2
   ·have ry:=WN (m:=m) (y:=x) (Ne.symm h) hx (by'.2.2 y2).2
    have hne:x.2.1.toNat≠y.2.1.toNat:=fun e=>hc (by
     have:=(bx.2.2 x2).1
     have:=(by'.2.2 y2).1
     unfold W7 X3
     simp [x2,y2]
     omega)
    rw [if_pos y2,if_pos x2,rx,ry]
    unfold shC
    rw [if_pos x2,if_pos y2,List.set_comm _ _ hne]
   rw [if_neg y2,if_pos x2,rx]
   unfold shC
   rw [if_pos x2,if_neg y2]
  by_cases y2:y.1=2
  ·have ry:=WN (m:=m) (y:=x) (Ne.symm h) hx (by'.2.2 y2).2
   rw [if_pos y2,if_neg x2,ry]
   unfold shC
   rw [if_neg x2,if_pos y2]
  rw [if_neg y2,if_neg x2]
  unfold shC
  rw [if_neg x2,if_neg y2]
 ·simp only
  have kx:(x.1=5∨x.1=6)→(lkC m y l).getD x.2.1.toNat 0=m.2.2.1.getD x.2.1.toNat 0:=fun g=>S9 hx hy hc g
  have ky:(y.1=5∨y.1=6)→(lkC m x k).getD y.2.1.toNat 0=m.2.2.1.getD y.2.1.toNat 0:=fun g=>S9 hy hx hc' g
  have hne:(x.1=5∨x.1=6)→(y.1=5∨y.1=6)→x.2.1.toNat≠y.2.1.toNat:=fun h1 h2 e=>hc (by
   have h3:=bx.1 (by omega)
   have h4:=by'.1 (by omega)
   have hxo:X3 x=4+x.2.1:=by unfold X3;rw [if_neg (by omega),if_neg (by omega),if_pos h1]
   have hyo:X3 y=4+y.2.1:=by unfold X3;rw [if_neg (by omega),if_neg (by omega),if_pos h2]
   exact ⟨by omega,by rw [hxo,hyo];omega,by omega⟩)
  have ex:∀ L:List Int,(x.1=5∨x.1=6→L.getD x.2.1.toNat 0=m.2.2.1.getD x.2.1.toNat 0)→(if x.1=5 then L.set x.2.1.toNat ((k:Int)+1) else if x.1=6∧L.getD x.2.1.toNat 0=(k:Int)+1 then L.set x.2.1.toNat 0 else L)=(if x.1=5 then L.set x.2.1.toNat ((k:Int)+1) else if x.1=6∧m.2.2.1.getD x.2.1.toNat 0=(k:Int)+1 then L.set x.2.1.toNat 0 else L):=fun L g=>by
   by_cases a6:x.1=6
   ·rw [g (.inr a6)]
   simp [a6]
  have ey:∀ L:List Int,(y.1=5∨y.1=6→L.getD y.2.1.toNat 0=m.2.2.1.getD y.2.1.toNat 0)→(if y.1=5 then L.set y.2.1.toNat ((l:Int)+1) else if y.1=6∧L.getD y.2.1.toNat 0=(l:Int)+1 then L.set y.2.1.toNat 0 else L)=(if y.1=5 then L.set y.2.1.toNat ((l:Int)+1) else if y.1=6∧m.2.2.1.getD y.2.1.toNat 0=(l:Int)+1 then L.set y.2.1.toNat 0 else L):=fun L g=>by
   by_cases a6:y.1=6
   ·rw [g (.inr a6)]
   simp [a6]
  unfold lkC
  rw [hlx,hly,ey _ ky,ex _ kx]
  unfold lkC
  by_cases x5:x.1=5
  ·by_cases y5:y.1=5
   ·simp only [x5,y5,if_true]
    exact List.set_comm _ _ (hne (.inl x5) (.inl y5))
   by_cases y6:y.1=6∧m.2.2.1.getD y.2.1.toNat 0=(l:Int)+1
   ·simp only [if_pos x5,if_neg y5,if_pos y6]
    exact List.set_comm _ _ (hne (.inl x5) (.inr y6.1))
   simp only [if_pos x5,if_neg y5,if_neg y6]
  by_cases x6:x.1=6∧m.2.2.1.getD x.2.1.toNat 0=(k:Int)+1
  ·by_cases y5:y.1=5
   ·simp only [if_neg x5,if_pos x6,if_pos y5]
    exact List.set_comm _ _ (hne (.inr x6.1) (.inl y5))
   by_cases y6:y.1=6∧m.2.2.1.getD y.2.1.toNat 0=(l:Int)+1
   ·simp only [if_neg x5,if_pos x6,if_neg y5,if_pos y6]
    exact List.set_comm _ _ (hne (.inr x6.1) (.inr y6.1))
   simp only [if_neg x5,if_pos x6,if_neg y5,if_neg y6]
  simp only [if_neg x5,if_neg x6]
 simp only
 have sx:x.1=1→(shC m y l).getD x.2.2.toNat 0=m.2.1.getD x.2.2.toNat 0:=fun g=>LH hx hy hc g
 have sy:y.1=1→(shC m x k).getD y.2.2.toNat 0=m.2.1.getD y.2.2.toNat 0:=fun g=>LH hy hx hc' g
 have rx:x.1=4→(rgC m y l).getD (k*2+x.2.1.toNat) 0=m.2.2.2.getD (k*2+x.2.1.toNat) 0:=fun g=>WN h hy (bx.1 (by omega))
 have ry:y.1=4→(rgC m x k).getD (l*2+y.2.1.toNat) 0=m.2.2.2.getD (l*2+y.2.1.toNat) 0:=fun g=>WN (Ne.symm h) hx (by'.1 (by omega))
 have hne:x.1≠2→y.1≠2→k*2+x.2.1.toNat≠l*2+y.2.1.toNat:=fun a b=>LC h (bx.1 a) (by'.1 b)
 obtain ⟨u,hu⟩:∃ u:Option Int,∀ (S R:List Int),(x.1=1→S.getD x.2.2.toNat 0=m.2.1.getD x.2.2.toNat 0)→(x.1=4→R.getD (k*2+x.2.1.toNat) 0=m.2.2.2.getD (k*2+x.2.1.toNat) 0)→(if x.1=1 then R.set (k*2+x.2.1.toNat) (S.getD x.2.2.toNat 0) else if x.1=3 then R.set (k*2+x.2.1.toNat) x.2.2 else if x.1=4 then R.set (k*2+x.2.1.toNat) ((R.getD (k*2+x.2.1.toNat) 0+x.2.2) % 10) else R)=K7 u (R) (k*2+x.2.1.toNat)∧(u≠none→x.1≠2):=by
  by_cases a1:x.1=1
  ·exact ⟨some (m.2.1.getD x.2.2.toNat 0),fun S R g1 g4=>⟨by rw [if_pos a1,g1 a1];rfl,fun _=>by omega⟩⟩
  by_cases a3:x.1=3
  ·exact ⟨some x.2.2,fun S R g1 g4=>⟨by rw [if_neg a1,if_pos a3];rfl,fun _=>by omega⟩⟩
  by_cases a4:x.1=4
  ·exact ⟨some ((m.2.2.2.getD (k*2+x.2.1.toNat) 0+x.2.2) % 10),fun S R g1 g4=>⟨by rw [if_neg a1,if_neg a3,if_pos a4,g4 a4];rfl,fun _=>by omega⟩⟩
  exact ⟨none,fun S R g1 g4=>⟨by rw [if_neg a1,if_neg a3,if_neg a4];rfl,fun g=>absurd rfl g⟩⟩
 obtain ⟨v,hv⟩:∃ v:Option Int,∀ (S R:List Int),(y.1=1→S.getD y.2.2.toNat 0=m.2.1.getD y.2.2.toNat 0)→(y.1=4→R.getD (l*2+y.2.1.toNat) 0=m.2.2.2.getD (l*2+y.2.1.toNat) 0)→(if y.1=1 then R.set (l*2+y.2.1.toNat) (S.getD y.2.2.toNat 0) else if y.1=3 then R.set (l*2+y.2.1.toNat) y.2.2 else if y.1=4 then R.set (l*2+y.2.1.toNat) ((R.getD (l*2+y.2.1.toNat) 0+y.2.2) % 10) else R)=K7 v (R) (l*2+y.2.1.toNat)∧(v≠none→y.1≠2):=by
  by_cases a1:y.1=1
  ·exact ⟨some (m.2.1.getD y.2.2.toNat 0),fun S R g1 g4=>⟨by rw [if_pos a1,g1 a1];rfl,fun _=>by omega⟩⟩
  by_cases a3:y.1=3
  ·exact ⟨some y.2.2,fun S R g1 g4=>⟨by rw [if_neg a1,if_pos a3];rfl,fun _=>by omega⟩⟩
  by_cases a4:y.1=4
  ·exact ⟨some ((m.2.2.2.getD (l*2+y.2.1.toNat) 0+y.2.2) % 10),fun S R g1 g4=>⟨by rw [if_neg a1,if_neg a3,if_pos a4,g4 a4];rfl,fun _=>by omega⟩⟩
  exact ⟨none,fun S R g1 g4=>⟨by rw [if_neg a1,if_neg a3,if_neg a4];rfl,fun g=>absurd rfl g⟩⟩
 have f1:=hv (shC m x k) (rgC m x k) sy ry
 have f2:=hu (shC m y l) (rgC m y l) sx rx
 have f3:=hu m.2.1 m.2.2.2 (fun _=>rfl) (fun _=>rfl)
 have f4:=hv m.2.1 m.2.2.2 (fun _=>rfl) (fun _=>rfl)
 have g3:rgC m x k=K7 u (m.2.2.2) (k*2+x.2.1.toNat):=f3.1
 have g4:rgC m y l=K7 v (m.2.2.2) (l*2+y.2.1.toNat):=f4.1
 have g1:rgC (ZC m x k).1 y l=K7 v (rgC m x k) (l*2+y.2.1.toNat):=by
  rw [← f1.1]
  show rgC (ZC m x k).1 y l=_
  unfold rgC
  rw [hsx,hrx]
  rfl
 have g2:rgC (ZC m y l).1 x k=K7 u (rgC m y l) (k*2+x.2.1.toNat):=by
  rw [← f2.1]
  show rgC (ZC m y l).1 x k=_
  unfold rgC
  rw [hsy,hry]
  rfl
 rw [g1,g2,g3,g4]
 cases u with
 | none=>cases v<;>rfl
 | some a =>
  cases v with
  | none=>rfl
  | some b=>exact List.set_comm _ _ (hne (f3.2 (by simp)) (f4.2 (by simp)))


def Yu:List I4→List Value
 | []=>[]
 | x::xs=>[.int .i64 x.1,.int .i64 x.2.1,.int .i64 x.2.2.1,.int .i64 x.2.2.2]++Yu xs
theorem Xl (es:List I4) (x:I4):Yu (es++[x])=Yu es++[.int .i64 x.1,.int .i64 x.2.1,.int .i64 x.2.2.1,.int .i64 x.2.2.2]:=by
 induction es with
 | nil=>rfl
 | cons y ys ih=>simp only [List.cons_append,Yu,ih,List.append_assoc]
theorem Uo:∀ xs:List I4,(Yu xs).length=xs.length*4
 | []=>rfl
 | x::xs=>by simp only [Yu,List.length_append,Uo xs,List.length_cons,List.length_nil];omega
theorem RA:∀ (xs:List I4) (t:Nat),t<xs.length→(Yu xs)[t*4]?=some (.int .i64 (xs.getD t (0,0,0,0)).1)∧(Yu xs)[t*4+1]?=some (.int .i64 (xs.getD t (0,0,0,0)).2.1)∧(Yu xs)[t*4+2]?=some (.int .i64 (xs.getD t (0,0,0,0)).2.2.1)∧(Yu xs)[t*4+3]?=some (.int .i64 (xs.getD t (0,0,0,0)).2.2.2)
 | [],t,h=>by simp at h
 | x::xs,0,_=>⟨rfl,rfl,rfl,rfl⟩
 | x::xs,t+1,h=>by
  have ih:=RA xs t (by simpa using h)
  have e:(t+1)*4=t*4+1+1+1+1:=by omega
  simp only [Yu,List.cons_append,List.nil_append,e,List.getElem?_cons_succ,List.getD_cons_succ]
  exact ih
def Evs (w:World) (a:Option Addr) (n:Nat) (xs:List I4):Prop:=xs.length=n∧n≤maxLen∧(n=0∨∃ g,a=some ⟨g,0,none⟩∧g<w.heap.size∧∀ t,t<n→w.cell? ⟨g,t*4,none⟩=some (.int .i64 (xs.getD t (0,0,0,0)).1)∧w.cell? ⟨g,t*4+1,none⟩=some (.int .i64 (xs.getD t (0,0,0,0)).2.1)∧w.cell? ⟨g,t*4+2,none⟩=some (.int .i64 (xs.getD t (0,0,0,0)).2.2.1)∧w.cell? ⟨g,t*4+3,none⟩=some (.int .i64 (xs.getD t (0,0,0,0)).2.2.2))
theorem Un {w:World} {B:Nat} {v:Value} {xs:List I4} (h:w.ownsRow B 135 4 v xs.length (Yu xs)):∃ a cap,v=.slice a xs.length cap∧Evs w a xs.length xs:=by
 rcases h.2 with ⟨rfl,h0⟩ | ⟨g,cap,cur,hv,_,_,hnc,hcm,_⟩
 ·exact ⟨none,0,by rw [h0],rfl,by rw [h0];omega,.inl h0⟩
 subst hv
 refine ⟨_,cap,rfl,rfl,by omega,.inr ⟨g,rfl,(h.lt g rfl).2,fun t ht=>?_⟩⟩
 obtain ⟨a0,a1,a2,a3⟩:=RA xs t ht
 exact ⟨(h.cellAt _ (by omega)).trans a0,(h.cellAt _ (by omega)).trans a1,(h.cellAt _ (by omega)).trans a2,(h.cellAt _ (by omega)).trans a3⟩
theorem Evs.below {w w':World} {a:Option Addr} {n:Nat} {xs:List I4} (h:Evs w a n xs) (hb:Below w.heap.size w w'):Evs w' a n xs:=by
 obtain ⟨h1,h2,h3 | ⟨g,rfl,hl,hc⟩⟩:=h
 ·exact ⟨h1,h2,.inl h3⟩
 refine ⟨h1,h2,.inr ⟨g,rfl,Nat.lt_of_lt_of_le hl hb.size,fun t ht=>?_⟩⟩
 obtain ⟨c0,c1,c2,c3⟩:=hc t ht
 exact ⟨(hb.cell (p:=⟨g,_,none⟩) hl).trans c0,(hb.cell (p:=⟨g,_,none⟩) hl).trans c1,(hb.cell (p:=⟨g,_,none⟩) hl).trans c2,(hb.cell (p:=⟨g,_,none⟩) hl).trans c3⟩


theorem Km {a b c:World} {r:Option Nat} {j:Nat} (h:a.grownBy b r) (k:b.grownBy c (some j)) (hj:a.heap.size≤j):a.grownBy c r:=
 ⟨k.os.trans h.os,k.tape.trans h.tape,k.output.trans h.output,Nat.le_trans h.size k.size,fun i hi hr=>(k.block i (Nat.lt_of_lt_of_le hi h.size) (by simp;omega)).trans (h.block i hi hr)⟩

theorem LV {w:World} {g:Nat} {cs:Sl × Sl × Sl} {rows:List (List I3)} {m:V4} (h:Yj w g cs rows m) (hp:Zn rows=true) (hs:Zk m=true) {k:Nat} (hk:k<3) (hd:Z1 rows m k=false) :
  Calls Tryz.prog 39 #[.pointer (some ⟨g,0,none⟩),.int .i64 k] w fun e w'=>e=.returned (.agg #[.int .i64 (ZC m (Yq rows m k) k).2,.int .i64 k,.int .i64 (m.1.getD k 0)])∧Blk w' g 69 (Zf cs.1.val cs.2.1.val cs.2.2.val (ZC m (Yq rows m k) k).1)∧w.grownBy w' (some g):=by
 have kS:=fun W (hM:Yj W g cs rows m)=>LS hM hp hs hk hd
 generalize ZC m (Yq rows m k) k=zf at *
 obtain ⟨z,f⟩:=zf
 simp only at kS ⊢
 have hk3:(k:Int)<3:=by omega
 obtain ⟨pc,hpc⟩:∃ pc,pc=m.1.getD k 0:=⟨_,rfl⟩
 rw [← hpc]
 have HPc:Hid (pc=m.1.getD k 0):=hpc
 clear hd hp hs hpc
 have hgl:=h.1.lt
 have pB:=Blk.new w 90 [.int .i64 0,.int .i64 0,.int .i64 0]
 have bz:Below w.heap.size w (w.alloc (.cells #[.int .i64 0,.int .i64 0,.int .i64 0] 90)):=by go_grown
 replace h:=h.below bz
 have r1:=h.pc hk
 rw [← HPc.out] at r1
 clear HPc
 have kSx:=kS _ h
 clear kS h
 go_enter Tryz.func39,Tryz.ntmps39
 go_wp2_with fail
 refine kSx.mono ?_
 rintro e w2 ⟨rfl,hM2,g2⟩
 have gz:w.grownBy w2 (some g):=ZL (Yb bz) g2
 have pB2:=pB.kept g2 (by simp;omega)
 have hsz:=gz.size
 clear kSx g2 bz r1 pB
 obtain ⟨GB,hGB⟩:∃ GB,GB=w.heap.size:=⟨_,rfl⟩
 have hwj:w.heap.size≤GB:=by omega
 rw [← hGB] at pB2 hgl ⊢
 clear hGB hsz
 go_wp2_with (refine Zd rfl 90 _ _ rfl GB [.int .i64 f,.int .i64 k,.int .i64 pc] rfl rfl pB2 (by kernel_rfl) rfl rfl ?_)
 intro W9 pR2 g3
 have hM3:=hM2.kept g3 (by simp;omega)
 go_wp2
 refine bodyPost_ret (XT Tryz.results39 _ _ _ _ _ _ rfl pR2.out Tryz.underlying90 rfl (by kernel_rfl)) rfl ?_
 exact ⟨rfl,hM3,Km gz g3 hwj⟩


theorem Hu (rows:List (List I3)) (m:V4) (k:Int):(Yr rows m k).length≤1:=by unfold Yr;split<;>simp

open Go.RowKit Go.Sort

def Ps (a b:Int):Int:=if a<b then -1 else if b<a then 1 else 0
def orI (a b c:Int):Int:=if a≠0 then a else if b≠0 then b else c
def Rq (x y:I3):Int:=orI (Ps x.1 y.1) (Ps x.2.1 y.2.1) (Ps x.2.2 y.2.2)
theorem Vw (x y:I3):ltOf Rq x y=ltB x y:=by
 unfold ltOf Rq orI Ps ltB
 by_cases a1:x.1<y.1
 ·simp [a1]
 by_cases a2:y.1<x.1
 ·have:¬ (x.1=y.1):=by omega
  simp [a1,a2,this]
 have a3:x.1=y.1:=by omega
 by_cases b1:x.2.1<y.2.1
 ·simp [a3,b1]
 by_cases b2:y.2.1<x.2.1
 ·have:¬ (x.2.1=y.2.1):=by omega
  simp [a3,b1,b2,this]
 have b3:x.2.1=y.2.1:=by omega
 by_cases c1:x.2.2<y.2.2
 ·simp [a3,b3,c1]
 by_cases c2:y.2.2<x.2.2
 ·simp [a3,b3,c1,c2]
 simp [a3,b3,c1,c2]
theorem JO:SWO (ltOf Rq) where
 irrefl x:=by rw [Vw];exact UR x
 trans x y z h1 h2:=by rw [Vw] at *;exact Uv h1 h2
 ntrans x y z h1 h2:=by
  rw [Vw] at *
  cases h:ltB x z
  ·rfl
  cases k:ltB y x
  ·have:=Wz h1 k
   subst this
   rw [h] at h2
   cases h2
  have:=Uv k h
  rw [this] at h2
  cases h2
theorem Mt (x y:I3) (h:ltOf Rq x y=false) (k:ltOf Rq y x=false):x=y:=by
 rw [Vw] at h k
 exact Wz h k

theorem Vf (a b:Int) (w:World):Calls Tryz.prog 142 #[.int .i64 a,.int .i64 b] w fun e w'=>e=.returned (.int .i64 (Ps a b))∧w=w':=by
 have ha:(a != a)=false:=by simp
 have hb:(b != b)=false:=by simp
 unfold Ps
 by_cases h1:a<b
 ·rw [if_pos h1]
  go_enter Tryz.func142,Tryz.ntmps142
  go_wp2
  go_ret
  exact ⟨rfl,rfl⟩
 rw [if_neg h1]
 by_cases h2:b<a
 ·rw [if_pos h2]
  go_enter Tryz.func142,Tryz.ntmps142
  go_wp2
  go_ret
  exact ⟨rfl,rfl⟩
 rw [if_neg h2]
 go_enter Tryz.func142,Tryz.ntmps142
 go_wp2
 go_ret
 exact ⟨rfl,rfl⟩

theorem JP (g:Nat) (a b c:Int) (w:World) (h0:w.cell? ⟨g,0,none⟩=some (.int .i64 a)) (h1:w.cell? ⟨g,1,none⟩=some (.int .i64 b)) (h2:w.cell? ⟨g,2,none⟩=some (.int .i64 c)) :
  Calls Tryz.prog 141 #[.slice (some ⟨g,0,none⟩) 3 3] w fun e w'=>e=.returned (.int .i64 (orI a b c))∧w=w':=by
 unfold orI
 by_cases ha:a=0
 ·subst ha
  simp only [ne_eq,not_true_eq_false,if_false]
  by_cases hb:b=0
  ·subst hb
   simp only [ne_eq,not_true_eq_false,if_false]
   by_cases hc:c=0
   ·subst hc
    go_enter Tryz.func141,Tryz.ntmps141
    go_wp2
    refine wp_loop_rounds 4 ?_
    rw [rounds_succ]
    go_wp2
    rw [rounds_succ]
    go_wp2
    rw [rounds_succ]
    go_wp2
    rw [rounds_succ]
    go_wp2
    go_ret
    exact ⟨rfl,rfl⟩
   go_enter Tryz.func141,Tryz.ntmps141
   go_wp2
   refine wp_loop_rounds 3 ?_
   rw [rounds_succ]
   go_wp2
   rw [rounds_succ]
   go_wp2
   rw [rounds_succ]
   go_wp2
   go_ret
   exact ⟨rfl,rfl⟩
  simp only [ne_eq,hb,not_false_eq_true,if_true]
  go_enter Tryz.func141,Tryz.ntmps141
  go_wp2
  refine wp_loop_rounds 2 ?_
  rw [rounds_succ]
  go_wp2
  rw [rounds_succ]
  go_wp2
  go_ret
  exact ⟨rfl,rfl⟩
 simp only [ne_eq,ha,not_false_eq_true,if_true]
 go_enter Tryz.func141,Tryz.ntmps141
 go_wp2
 refine wp_loop_rounds 1 ?_
 rw [rounds_succ]
 go_wp2
 go_ret
 exact ⟨rfl,rfl⟩

theorem Rt (x y:I3) (w:World) :
  Calls Tryz.prog 93 #[.agg #[.int .i64 x.1,.int .i64 x.2.1,.int .i64 x.2.2],.agg #[.int .i64 y.1,.int .i64 y.2.1,.int .i64 y.2.2]] w fun e w'=>e=.returned (.int .i64 (Rq x y))∧∃ q os,w'=grow (w.drewN q) os:=by
 obtain ⟨x0,x1,x2⟩:=x
 obtain ⟨y0,y1,y2⟩:=y
 unfold Rq
 simp only
 have k0:=fun W=>Vf x0 y0 W
 have k1:=fun W=>Vf x1 y1 W
 have k2:=fun W=>Vf x2 y2 W
 generalize Ps x0 y0=p0 at *
 generalize Ps x1 y1=p1 at *
 generalize Ps x2 y2=p2 at *
 have HW:Hid (∃ q os,((w.alloc (.cells #[.int .i64 x0,.int .i64 x1,.int .i64 x2] 90)).alloc (.cells #[.int .i64 y0,.int .i64 y1,.int .i64 y2] 90)).drew.alloc (.cells #[.int .i64 p0,.int .i64 p1,.int .i64 p2] 3)=grow (w.drewN q) os):=⟨1,#[.cells #[.int .i64 x0,.int .i64 x1,.int .i64 x2] 90]++#[.cells #[.int .i64 y0,.int .i64 y1,.int .i64 y2] 90]++#[.cells #[.int .i64 p0,.int .i64 p1,.int .i64 p2] 3],by
  rw [alloc_eq_grow,alloc_eq_grow,alloc_eq_grow]
  simp only [grow,World.drew,World.drewN,Array.append_assoc]⟩
 have c0:((w.alloc (.cells #[.int .i64 x0,.int .i64 x1,.int .i64 x2] 90)).alloc (.cells #[.int .i64 y0,.int .i64 y1,.int .i64 y2] 90)).cell? ⟨w.heap.size,0,none⟩=some (.int .i64 x0):=by simp [go_sem]
 have c1:((w.alloc (.cells #[.int .i64 x0,.int .i64 x1,.int .i64 x2] 90)).alloc (.cells #[.int .i64 y0,.int .i64 y1,.int .i64 y2] 90)).cell? ⟨w.heap.size,1,none⟩=some (.int .i64 x1):=by simp [go_sem]
 have c2:((w.alloc (.cells #[.int .i64 x0,.int .i64 x1,.int .i64 x2] 90)).alloc (.cells #[.int .i64 y0,.int .i64 y1,.int .i64 y2] 90)).cell? ⟨w.heap.size,2,none⟩=some (.int .i64 x2):=by simp [go_sem]
 have e0:((w.alloc (.cells #[.int .i64 x0,.int .i64 x1,.int .i64 x2] 90)).alloc (.cells #[.int .i64 y0,.int .i64 y1,.int .i64 y2] 90)).cell? ⟨w.heap.size+1,0,none⟩=some (.int .i64 y0):=by simp [go_sem]
 have e1:((w.alloc (.cells #[.int .i64 x0,.int .i64 x1,.int .i64 x2] 90)).alloc (.cells #[.int .i64 y0,.int .i64 y1,.int .i64 y2] 90)).cell? ⟨w.heap.size+1,1,none⟩=some (.int .i64 y1):=by simp [go_sem]
 have e2:((w.alloc (.cells #[.int .i64 x0,.int .i64 x1,.int .i64 x2] 90)).alloc (.cells #[.int .i64 y0,.int .i64 y1,.int .i64 y2] 90)).cell? ⟨w.heap.size+1,2,none⟩=some (.int .i64 y2):=by simp [go_sem]
 go_enter Tryz.func93,Tryz.ntmps93
 go_wp2_with fail
 generalize ((w.alloc (.cells #[.int .i64 x0,.int .i64 x1,.int .i64 x2] 90)).alloc (.cells #[.int .i64 y0,.int .i64 y1,.int .i64 y2] 90))=W at *
 refine wp_region_held_drew (S:=(fun w'=>w'.cell? ⟨w.heap.size,0,none⟩=some (.int .i64 x0)∧w'.cell? ⟨w.heap.size,1,none⟩=some (.int .i64 x1)∧w'.cell? ⟨w.heap.size,2,none⟩=some (.int .i64 x2)∧w'.cell? ⟨w.heap.size+1,0,none⟩=some (.int .i64 y0)∧w'.cell? ⟨w.heap.size+1,1,none⟩=some (.int .i64 y1)∧w'.cell? ⟨w.heap.size+1,2,none⟩=some (.int .i64 y2))) (by kernel_rfl) ⟨c0,c1,c2,e0,e1,e2⟩ (fun hS0=>?_)
 refine tkm 0 5 (.pointer (some ⟨w.heap.size,0,none⟩)) ?_
 refine tkm 1 6 (.int .i64 x0) ?_
 refine tkm 2 7 (.pointer (some ⟨w.heap.size+1,0,none⟩)) ?_
 refine tkm 3 8 (.int .i64 y0) ?_
 refine tkm 5 10 (.pointer (some ⟨w.heap.size,1,none⟩)) ?_
 refine tkm 6 11 (.int .i64 x1) ?_
 refine tkm 7 12 (.pointer (some ⟨w.heap.size+1,1,none⟩)) ?_
 refine tkm 8 13 (.int .i64 y1) ?_
 refine tkm 10 15 (.pointer (some ⟨w.heap.size,2,none⟩)) ?_
 refine tkm 11 16 (.int .i64 x2) ?_
 refine tkm 12 17 (.pointer (some ⟨w.heap.size+1,2,none⟩)) ?_
 refine tkm 13 18 (.int .i64 y2) ?_
 refine tkr 4 9 (fun K hK=>?_)
 go_simp
 refine (k0 _).mono ?_
 rintro e w5 ⟨rfl,rfl⟩
 go_wp2_with fail
 refine hK.out _ _ ⟨c0,c1,c2,e0,e1,e2⟩ (fun hS1=>?_)
 clear hK
 try simp only [Act.put,tka,tkb,tkc]
 refine tkr 9 14 (fun K hK=>?_)
 go_simp
 refine (k1 _).mono ?_
 rintro e w6 ⟨rfl,rfl⟩
 go_wp2_with fail
 refine hK.out _ _ ⟨c0,c1,c2,e0,e1,e2⟩ (fun hS2=>?_)
 clear hK
 try simp only [Act.put,tka,tkb,tkc]
 refine tkr 14 19 (fun K hK=>?_)
 go_simp
 refine (k2 _).mono ?_
 rintro e w7 ⟨rfl,rfl⟩
 go_wp2_with fail
 refine hK.out _ _ ⟨c0,c1,c2,e0,e1,e2⟩ (fun hS3=>?_)
 clear hK
 try simp only [Act.put,tka,tkb,tkc]
 have f0:(W.drew.alloc (.cells #[.int .i64 p0,.int .i64 p1,.int .i64 p2] 3)).cell? ⟨W.heap.size,0,none⟩=some (.int .i64 p0):=by simp [go_sem]
 have f1:(W.drew.alloc (.cells #[.int .i64 p0,.int .i64 p1,.int .i64 p2] 3)).cell? ⟨W.heap.size,1,none⟩=some (.int .i64 p1):=by simp [go_sem]
 have f2:(W.drew.alloc (.cells #[.int .i64 p0,.int .i64 p1,.int .i64 p2] 3)).cell? ⟨W.heap.size,2,none⟩=some (.int .i64 p2):=by simp [go_sem]
 have hal:Below W.heap.size W (W.drew.alloc (.cells #[.int .i64 p0,.int .i64 p1,.int .i64 p2] 3)):=by go_grown
 refine tkr 15 20 (fun K hK=>?_)
 go_simp
 refine hK.out _ _ ⟨Za hal _ _ c0,Za hal _ _ c1,Za hal _ _ c2,Za hal _ _ e0,Za hal _ _ e1,Za hal _ _ e2⟩ (fun hSa=>?_)
 clear hK
 try simp only [Act.put,tka,tkb,tkc]
 refine tkr 16 21 (fun K hK=>?_)
 go_simp
 refine (JP W.heap.size p0 p1 p2 _ f0 f1 f2).mono ?_
 rintro e w9 ⟨rfl,rfl⟩
 go_wp2_with fail
 refine hK.out _ _ hSa (fun hSb=>?_)
 clear hK
 try simp only [Act.put,tka,tkb,tkc]
 refine tkm 17 4 (.int .i64 (orI p0 p1 p2)) ?_
 refine wpAnyH_done (by kernel_rfl) ?_ _
 clear hSa hSb c0 c1 c2 e0 e1 e2 f0 f1 f2 k0 k1 k2
 go_wp2
 go_ret
 exact ⟨rfl,HW.out⟩

open Go.RowKit Go.Shelf

def Me:Go.Shelf.Ren:=⟨fun | 6=>92 | 15=>140 | 14=>139 | 28=>192 | 29=>193 | 20=>184 | 21=>185 | 22=>186 | 23=>187 | 24=>188 | 25=>189 | 26=>190 | 27=>191 | 46=>213 | 47=>214 | 48=>215 | 49=>216 | 50=>217 | 57=>236 | n=>n,fun | 22=>29 | 24=>90 | 25=>163 | 3=>3 | 39=>223 | 0=>0 | 53=>268 | 55=>270 | 4=>4 | 46=>262 | 45=>261 | 50=>228 | 5=>5 | 9=>9 | 66=>287 | 70=>291 | 76=>308 | 77=>27 | n=>n,fun | n=>n⟩
theorem LI:Go.Proofs.SlLaysF0.n6 Tryz.prog Me:={
 mixed:=by kernel_rfl
 f6:=⟨Tryz.f92.name,by decide,Tryz.func92.trans (congrArg some (by kernel_rfl))⟩
 f14:=⟨Tryz.f139.name,by decide,Tryz.func139.trans (congrArg some (by kernel_rfl))⟩
 f15:=Tryz.func140.trans (congrArg some (by kernel_rfl))
 f20:=⟨Tryz.f184.name,by decide,Tryz.func184.trans (congrArg some (by kernel_rfl))⟩
 f21:=⟨Tryz.f185.name,by decide,Tryz.func185.trans (congrArg some (by kernel_rfl))⟩
 f22:=⟨Tryz.f186.name,by decide,Tryz.func186.trans (congrArg some (by kernel_rfl))⟩
 f23:=⟨Tryz.f187.name,by decide,Tryz.func187.trans (congrArg some (by kernel_rfl))⟩
 f24:=⟨Tryz.f188.name,by decide,Tryz.func188.trans (congrArg some (by kernel_rfl))⟩
 f25:=⟨Tryz.f189.name,by decide,Tryz.func189.trans (congrArg some (by kernel_rfl))⟩
 f26:=⟨Tryz.f190.name,by decide,Tryz.func190.trans (congrArg some (by kernel_rfl))⟩
 f27:=⟨Tryz.f191.name,by decide,Tryz.func191.trans (congrArg some (by kernel_rfl))⟩
 f28:=Tryz.func192.trans (congrArg some (by kernel_rfl))
 f29:=Tryz.func193.trans (congrArg some (by kernel_rfl))
 f46:=⟨Tryz.f213.name,by decide,Tryz.func213.trans (congrArg some (by kernel_rfl))⟩
 f47:=Tryz.func214.trans (congrArg some (by kernel_rfl))
 f48:=Tryz.func215.trans (congrArg some (by kernel_rfl))
 f49:=⟨Tryz.f216.name,by decide,Tryz.func216.trans (congrArg some (by kernel_rfl))⟩
 f50:=⟨Tryz.f217.name,by decide,Tryz.func217.trans (congrArg some (by kernel_rfl))⟩
 f57:=⟨Tryz.f236.name,by decide,Tryz.func236.trans (congrArg some (by kernel_rfl))⟩
 t0:=Tryz.underlying0
 a0:=Tryz.isAgg0
 z0:=Tryz.sizeOf0
 v0:=Tryz.zeroValue0
 t3:=Tryz.underlying3
 a3:=Tryz.isAgg3
 z3:=Tryz.sizeOf3
 v3:=Tryz.zeroValue3
 t4:=Tryz.underlying4
 a4:=Tryz.isAgg4
 z4:=Tryz.sizeOf4
 v4:=Tryz.zeroValue4
 t5:=Tryz.underlying5
 a5:=Tryz.isAgg5
 z5:=Tryz.sizeOf5
 v5:=Tryz.zeroValue5
 t9:=Tryz.underlying9
 a9:=Tryz.isAgg9
 z9:=Tryz.sizeOf9
 v9:=Tryz.zeroValue9
 t22:=Tryz.underlying29
 a22:=Tryz.isAgg29
 z22:=Tryz.sizeOf29
 v22:=Tryz.zeroValue29
 t25:=Tryz.underlying163
 a25:=Tryz.isAgg163
 z25:=Tryz.sizeOf163
 v25:=Tryz.zeroValue163
 t39:=Tryz.underlying223
 a39:=Tryz.isAgg223
 z39:=Tryz.sizeOf223
 v39:=Tryz.zeroValue223
 t45:=Tryz.underlying261
 a45:=Tryz.isAgg261
 z45:=Tryz.sizeOf261
 v45:=Tryz.zeroValue261
 t46:=Tryz.underlying262
 a46:=Tryz.isAgg262
 z46:=Tryz.sizeOf262
 v46:=Tryz.zeroValue262
 t50:=Tryz.underlying228
 a50:=Tryz.isAgg228
 z50:=Tryz.sizeOf228
 v50:=Tryz.zeroValue228
 t53:=Tryz.underlying268
 a53:=Tryz.isAgg268
 z53:=Tryz.sizeOf268
 v53:=Tryz.zeroValue268
 t55:=Tryz.underlying270
 a55:=Tryz.isAgg270
 z55:=Tryz.sizeOf270
 v55:=Tryz.zeroValue270
 t66:=Tryz.underlying287
 a66:=Tryz.isAgg287
 z66:=Tryz.sizeOf287
 v66:=Tryz.zeroValue287
 t70:=Tryz.underlying291
 a70:=Tryz.isAgg291
 z70:=Tryz.sizeOf291
 v70:=Tryz.zeroValue291
 t76:=Tryz.underlying308
 a76:=Tryz.isAgg308
 z76:=Tryz.sizeOf308
 v76:=Tryz.zeroValue308
 t77:=Tryz.underlying27
 a77:=Tryz.isAgg27
 z77:=Tryz.sizeOf27
 v77:=Tryz.zeroValue27 }


def Np:Go.Shelf.Ren:=⟨fun | 4=>138 | n=>n,fun | 22=>29 | 25=>90 | 3=>3 | 4=>4 | 9=>9 | 20=>20 | 0=>0 | n=>n,fun | n=>n⟩
theorem Lj:Go.Proofs.Lays8.n4 Tryz.prog Np:={
 mixed:=by kernel_rfl
 f4:=⟨Tryz.f138.name,by decide,Tryz.func138.trans (congrArg some (by kernel_rfl))⟩
 t0:=Tryz.underlying0
 a0:=Tryz.isAgg0
 z0:=Tryz.sizeOf0
 v0:=Tryz.zeroValue0
 t3:=Tryz.underlying3
 a3:=Tryz.isAgg3
 z3:=Tryz.sizeOf3
 v3:=Tryz.zeroValue3
 t4:=Tryz.underlying4
 a4:=Tryz.isAgg4
 z4:=Tryz.sizeOf4
 v4:=Tryz.zeroValue4
 t9:=Tryz.underlying9
 a9:=Tryz.isAgg9
 z9:=Tryz.sizeOf9
 v9:=Tryz.zeroValue9
 t20:=Tryz.underlying20
 a20:=Tryz.isAgg20
 z20:=Tryz.sizeOf20
 v20:=Tryz.zeroValue20
 t22:=Tryz.underlying29
 a22:=Tryz.isAgg29
 z22:=Tryz.sizeOf29
 v22:=Tryz.zeroValue29 }

theorem PR {w:World} {B e s n:Nat} {v:Value} {cs:List Value} (h:w.ownsRow B e s v n cs):∃ a m c,v=.slice a m c:=by
 rcases h.2 with ⟨rfl,h0⟩ | ⟨g,cap,cur,hv,_⟩
 ·exact ⟨_,_,_,rfl⟩
 exact ⟨_,_,_,hv⟩
theorem J2 (n:Nat) (w:World) (hn:n≤1000000) :
  Calls Tryz.prog 138 #[.slice none 0 0,.int .i64 n] w fun e w'=>(∃ v,e=.returned v∧(∃ a c,v=.slice a 0 c)∧w'.ownsRow w.heap.size 90 3 v 0 [])∧Below w.heap.size w w':=by
 obtain ⟨i0,hi,hz0,hz1,hz2⟩:=info_parts VW
 by_cases h0:n=0
 ·subst h0
  have k:=Any8.slices_Grow_room Lj none 0 0 0 w (Nat.le_refl _) (by omega) (by omega) (by omega)
  refine Calls.mono k ?_
  rintro e w' ⟨rfl,rfl⟩
  exact ⟨⟨_,rfl,⟨_,_,rfl⟩,World.ownsRow_nil _ _ _ _⟩,Below.refl _ _⟩
 have k:=Any8.slices_Grow_grow Lj i0 _ hi hz0 (by omega) none 0 0 n [] w (Nat.le_refl _) (by omega) (by rw [hz2];omega) (by omega) (by simp) (fun _=>rfl) (fun a h=>by cases h)
 refine Calls.mono k ?_
 rintro e w' ⟨rfl,rfl⟩
 have hG1:=grownCap_ge w (0+n) 0 90
 have hG2:=grownCap_le_maxLen w (0+n) 0 90 (by unfold maxLen;omega)
 refine ⟨⟨_,rfl,⟨_,_,rfl⟩,rfl,.inr ⟨w.heap.size,_,_,rfl,Nat.le_refl _,heap_alloc_new _ _,Nat.zero_le _,hG2,?_,by simp⟩⟩,(Below.refl _ _).trans (by go_grown)⟩
 have e3:(Value.agg #[.int .i64 0,.int .i64 0,.int .i64 0]).cells.size=3:=rfl
 simp only [Array.size_append,size_zeroCells,e3,List.size_toArray,List.length_nil]
 show 0+(0+n - 0)*3+(grownCap w (0+n) 0 90 - (0+n))*3=grownCap w (0+n) 0 90*3
 omega

theorem Kd (g:Nat) (a0:Option Addr) (n0 c0:Nat) (xs:List I3) (a1:Option Addr) (n1 c1:Nat) (ys:List I3) (w:World) (h0:ZK w a0 n0 c0 xs) (h1:ZK w a1 n1 c1 ys) (m0:n0≤400000) (m1:n1≤400000)
  (z0:a0=none→c0=0) (z1:a1=none→c1=0) (p0:∀ a,a0=some a→a.spot=none) (p1:∀ a,a1=some a→a.spot=none) (d0:w.cell? ⟨g,0,none⟩=some (.slice a0 n0 c0)) (d1:w.cell? ⟨g,1,none⟩=some (.slice a1 n1 c1)) :
  Calls Tryz.prog 91 #[.slice (some ⟨g,0,none⟩) 2 2] w fun e w'=>(∃ v,e=.returned v∧(∃ a n c,v=.slice a n c)∧w'.ownsRow w.heap.size 90 3 v (n0+n1) (Zr (xs++ys)))∧Below w.heap.size w w':=by
 obtain ⟨i0,hi,hz0,hz1,hz2⟩:=info_parts VW
 have l0:=h0.1
 have l1:=h1.1
 have H1:Hid (∀ W,Below w.heap.size w W→ZK W a1 n1 c1 ys):=fun W hb=>h1.below hb
 have hgw:g<w.heap.size:=World.block_lt_of_cell? _ _ d0
 have kG:Hid (∀ (z:Int) (W:World),z=(n0:Int)+(n1:Int)→Calls Tryz.prog 138 #[.slice none 0 0,.int .i64 z] W fun e w'=>(∃ v,e=.returned v∧(∃ a c,v=.slice a 0 c)∧w'.ownsRow W.heap.size 90 3 v 0 [])∧Below W.heap.size W w'):=by
  intro z W hz
  obtain rfl:z=((n0+n1:Nat):Int):=by omega
  exact J2 (n0+n1) W (by omega)

 have HF:Hid (Zr (xs++ys)=Zr xs++Zr ys):=YB xs ys
 go_enter Tryz.func91,Tryz.ntmps91
 go_wp2_with fail
 refine wp_loop_rounds 3 ?_
 rw [rounds_succ]
 go_wp2
 rw [rounds_succ]
 go_wp2
 rw [rounds_succ]
 go_wp2_with fail
 refine (kG.out _ _ rfl).mono ?_
 rintro e w1 ⟨⟨v,rfl,⟨aG,cG,rfl⟩,hq⟩,bw⟩
 clear kG
 replace h0:=h0.below bw
 replace h1:=h1.below bw
 replace d0:=Za bw _ _ d0
 replace d1:=Za bw _ _ d1
 have hsz:=bw.size
 go_wp2_with fail
 refine wp_loop_rounds 3 ?_
 rw [rounds_succ]
 rcases a0 with _ | ⟨b0,o0,s0⟩
 ·obtain rfl:=z0 rfl
  obtain rfl:n0=0:=by have:=h0.2.1;omega
  obtain rfl:xs=[]:=List.length_eq_zero_iff.1 l0
  rcases a1 with _ | ⟨b1,o1,s1⟩
  ·obtain rfl:=z1 rfl
   obtain rfl:n1=0:=by have:=h1.2.1;omega
   obtain rfl:ys=[]:=List.length_eq_zero_iff.1 l1
   go_wp2_with (at_builtin;refine wpList_append_own_none rfl _ _ 29 rfl w.heap.size 90 i0 3 Tryz.underlying29 hi (.slice aG 0 cG) _ _ rfl hq rfl ?_)
   go_wp2_with fail
   rw [rounds_succ]
   go_wp2_with (at_builtin;refine wpList_append_own_none rfl _ _ 29 rfl w.heap.size 90 i0 3 Tryz.underlying29 hi (.slice aG 0 cG) _ _ rfl hq rfl ?_)
   go_wp2_with fail
   rw [rounds_succ]
   have HQ:Hid (∀ e:Ending,e=Ending.returned (.slice aG 0 cG)→∃ v,e=Ending.returned v∧(∃ a n c,v=Value.slice a n c)∧w1.ownsRow w.heap.size 90 3 v (0+0) (Zr ([]++[]))):=fun e he=>⟨_,he,PR hq,by simpa [YB,Zr] using hq⟩
   clear hq h0 h1 d0 d1
   go_wp2
   go_ret
   exact ⟨HQ.out _ rfl,bw⟩
  obtain rfl:s1=none:=p1 _ rfl
  go_wp2_with (at_builtin;refine wpList_append_own_none rfl _ _ 29 rfl w.heap.size 90 i0 3 Tryz.underlying29 hi (.slice aG 0 cG) _ _ rfl hq rfl ?_)
  go_wp2_with fail
  rw [rounds_succ]
  go_wp2_with (at_builtin;refine wpList_append_own _ rfl _ _ 29 rfl w.heap.size 90 i0 (.agg #[.int .i64 0,.int .i64 0,.int .i64 0]) 3 24 Tryz.underlying29 hi hz0 hz1 hz2 rfl (by decide) (.slice aG 0 cG) _ _ rfl hq ⟨b1,o1,none⟩ n1 c1 (Zr ys) rfl (by rw [ZD];omega) (Yc h1) (YV _) (by unfold maxLen;omega) (by omega) hsz ?_)
  intro v3 U3 q3 gr _
  replace d0:=Zh gr d0 (fun e=>by have h9:=(hq.lt _ e.symm).1;have h8:=hgw;simp at h9;omega)
  replace d1:=Zh gr d1 (fun e=>by have h9:=(hq.lt _ e.symm).1;have h8:=hgw;simp at h9;omega)
  replace bw:=bw.grown gr hsz (fun j hj=>(hq.lt j hj).1)
  replace h1:=H1.out _ bw
  replace hsz:=Nat.le_trans hsz gr.size
  clear gr
  go_wp2_with fail
  rw [rounds_succ]
  have HQ:Hid (∀ e:Ending,e=Ending.returned v3→∃ v,e=Ending.returned v∧(∃ a n c,v=Value.slice a n c)∧U3.ownsRow w.heap.size 90 3 v (0+n1) (Zr ([]++ys))):=fun e he=>⟨_,he,PR q3,by simpa [YB,Zr] using q3⟩
  clear q3 h0 h1 d0 d1
  go_wp2
  go_ret
  exact ⟨HQ.out _ rfl,bw⟩
 obtain rfl:s0=none:=p0 _ rfl
 rcases a1 with _ | ⟨b1,o1,s1⟩
 ·obtain rfl:=z1 rfl
  obtain rfl:n1=0:=by have:=h1.2.1;omega
  obtain rfl:ys=[]:=List.length_eq_zero_iff.1 l1
  go_wp2_with (at_builtin;refine wpList_append_own _ rfl _ _ 29 rfl w.heap.size 90 i0 (.agg #[.int .i64 0,.int .i64 0,.int .i64 0]) 3 24 Tryz.underlying29 hi hz0 hz1 hz2 rfl (by decide) (.slice aG 0 cG) _ _ rfl hq ⟨b0,o0,none⟩ n0 c0 (Zr xs) rfl (by rw [ZD];omega) (Yc h0) (YV _) (by unfold maxLen;omega) (by omega) hsz ?_)
  intro v2 U2 q2 gr _
  replace d0:=Zh gr d0 (fun e=>by have h9:=(hq.lt _ e.symm).1;have h8:=hgw;simp at h9;omega)
  replace d1:=Zh gr d1 (fun e=>by have h9:=(hq.lt _ e.symm).1;have h8:=hgw;simp at h9;omega)
  replace bw:=bw.grown gr hsz (fun j hj=>(hq.lt j hj).1)
  replace h1:=H1.out _ bw
  replace hsz:=Nat.le_trans hsz gr.size
  clear gr
  go_wp2_with fail
  rw [rounds_succ]
  go_wp2_with (at_builtin;refine wpList_append_own_none rfl _ _ 29 rfl w.heap.size 90 i0 3 Tryz.underlying29 hi v2 _ _ rfl q2 rfl ?_)
  go_wp2_with fail
  rw [rounds_succ]
  have HQ:Hid (∀ e:Ending,e=Ending.returned v2→∃ v,e=Ending.returned v∧(∃ a n c,v=Value.slice a n c)∧U2.ownsRow w.heap.size 90 3 v (n0+0) (Zr (xs++[]))):=fun e he=>⟨_,he,PR q2,by simpa [YB,Zr] using q2⟩
  clear q2 h0 h1 d0 d1
  go_wp2
  go_ret
  exact ⟨HQ.out _ rfl,bw⟩
 obtain rfl:s1=none:=p1 _ rfl
 go_wp2_with (at_builtin;refine wpList_append_own _ rfl _ _ 29 rfl w.heap.size 90 i0 (.agg #[.int .i64 0,.int .i64 0,.int .i64 0]) 3 24 Tryz.underlying29 hi hz0 hz1 hz2 rfl (by decide) (.slice aG 0 cG) _ _ rfl hq ⟨b0,o0,none⟩ n0 c0 (Zr xs) rfl (by rw [ZD];omega) (Yc h0) (YV _) (by unfold maxLen;omega) (by omega) hsz ?_)
 intro v2 U2 q2 gr _
 replace d0:=Zh gr d0 (fun e=>by have h9:=(hq.lt _ e.symm).1;have h8:=hgw;simp at h9;omega)
 replace d1:=Zh gr d1 (fun e=>by have h9:=(hq.lt _ e.symm).1;have h8:=hgw;simp at h9;omega)
 replace bw:=bw.grown gr hsz (fun j hj=>(hq.lt j hj).1)
 replace h1:=H1.out _ bw
 replace hsz:=Nat.le_trans hsz gr.size
 clear gr
 go_wp2_with fail
 rw [rounds_succ]
 go_wp2_with (at_builtin;refine wpList_append_own _ rfl _ _ 29 rfl w.heap.size 90 i0 (.agg #[.int .i64 0,.int .i64 0,.int .i64 0]) 3 24 Tryz.underlying29 hi hz0 hz1 hz2 rfl (by decide) v2 _ _ rfl q2 ⟨b1,o1,none⟩ n1 c1 (Zr ys) rfl (by rw [ZD];omega) (Yc h1) (YV _) (by unfold maxLen;omega) (by omega) hsz ?_)
 intro v3 U3 q3 gr _
 replace d0:=Zh gr d0 (fun e=>by have h9:=(q2.lt _ e.symm).1;have h8:=hgw;simp at h9;omega)
 replace d1:=Zh gr d1 (fun e=>by have h9:=(q2.lt _ e.symm).1;have h8:=hgw;simp at h9;omega)
 replace bw:=bw.grown gr hsz (fun j hj=>(q2.lt j hj).1)
 replace h1:=H1.out _ bw
 replace hsz:=Nat.le_trans hsz gr.size
 clear gr
 go_wp2_with fail
 rw [rounds_succ]
 have HQ:Hid (∀ e:Ending,e=Ending.returned v3→∃ v,e=Ending.returned v∧(∃ a n c,v=Value.slice a n c)∧U3.ownsRow w.heap.size 90 3 v (n0+n1) (Zr (xs++ys))):=fun e he=>⟨_,he,PR q3,by simpa [YB,Zr] using q3⟩
 clear q3 h0 h1 d0 d1
 go_wp2
 go_ret
 exact ⟨HQ.out _ rfl,bw⟩

open Go.RowKit Go.Sort Go.Shelf

theorem RB (xs:List I3):(flatK I3.cells 3 xs.toArray).toList=Zr xs:=by
 apply List.ext_getElem?
 intro t
 by_cases h:t<xs.length*3
 ·have hq:t / 3<xs.length:=by omega
  have hl:t<(flatK I3.cells 3 xs.toArray).toList.length:=by simp;omega
  have e1:(flatK I3.cells 3 xs.toArray).toList[t]?=some ((I3.cells xs.toArray[t / 3]!)[t % 3]!):=by
   rw [List.getElem?_eq_getElem hl,Array.getElem_toList,← getElem!_pos (flatK I3.cells 3 xs.toArray) t (by simpa using h),get_flatK _ _ _ _ (by simpa using h)]
  rw [e1]
  obtain ⟨f0,f1,f2⟩:=Py hq
  have ex:xs.toArray[t / 3]! = xs.getD (t / 3) (0,0,0):=by
   rw [getElem!_pos _ _ (by simpa using hq)]
   simp [List.getD,List.getElem?_eq_getElem hq]
  rw [ex]
  generalize xs.getD (t / 3) (0,0,0)=x at *
  have hr:t % 3=0∨t % 3=1∨t % 3=2:=by omega
  rcases hr with hr | hr | hr
  ·have e:t / 3*3=t:=by omega
   rw [e] at f0
   rw [f0,hr]
   rfl
  ·have e:t / 3*3+1=t:=by omega
   rw [e] at f1
   rw [f1,hr]
   rfl
  have e:t / 3*3+2=t:=by omega
  rw [e] at f2
  rw [f2,hr]
  rfl
 rw [List.getElem?_eq_none (by simp;omega),List.getElem?_eq_none (by rw [ZD];omega)]
theorem Ko {w:World} {B g n cap:Nat} {xs:List I3} (h:w.ownsRow B 90 3 (.slice (some ⟨g,0,none⟩) n cap) n (Zr xs)) (hl:xs.length=n):HoldsK I3.cells 3 w g 0 xs.toArray:=by
 intro t ht
 rw [size_flatK] at ht
 have ht':t<n*3:=by simpa [hl] using ht
 refine ⟨?_,by rw [Nat.zero_add];exact h.frozenAt t⟩
 rw [Nat.zero_add,h.cellAt t ht',← RB,getElem!_pos _ _ (by rw [size_flatK];exact ht)]
 simp [ht]
theorem Jc {w:World} {B g n cap m:Nat} {xs ys:List I3} {os:Array Obj} (h:w.ownsRow B 90 3 (.slice (some ⟨g,0,none⟩) n cap) n (Zr xs)) (hx:xs.length=n) (hy:ys.length=n) :
  (sortWorldK I3.cells 3 w g 0 m ys.toArray os).ownsRow B 90 3 (.slice (some ⟨g,0,none⟩) n cap) n (Zr ys)∧w.grownBy (sortWorldK I3.cells 3 w g 0 m ys.toArray os) (some g):=by
 rcases h.2 with ⟨hv,_⟩ | ⟨g',cap',cur,hv,hB,hg,hn,hc,hsz,ht⟩
 ·cases hv
 cases hv
 have hgl:g<w.heap.size:=(Array.getElem?_eq_some_iff.1 hg).1
 refine ⟨⟨by rw [ZD];omega,.inr ⟨g,cap,putCells id 0 (flatK I3.cells 3 ys.toArray) cur,rfl,hB,?_,hn,hc,?_,?_⟩⟩,⟨rfl,rfl,rfl,?_,?_⟩⟩
 ·show (((Sort.ahead w m).heap.modify g _)++os)[g]?=_
  rw [Array.getElem?_append_left (by simpa [Sort.ahead] using hgl),Array.getElem?_modify]
  simp [Sort.ahead,hg,onCells]
 ·simpa [putCells] using hsz
 ·have hfk:=RB ys
  have hfs:(flatK I3.cells 3 ys.toArray).size=n*3:=by simp [hy]
  apply List.ext_getElem?
  intro t
  by_cases h3:t<n*3
  ·rw [List.getElem?_take_of_lt h3,← hfk]
   have hcz:t<cur.size:=by rw [hsz];have:=Nat.mul_le_mul_right 3 hn;omega
   simp only [putCells,Array.getElem?_toList,Array.getElem?_mapIdx,Array.getElem?_eq_getElem hcz,Option.map_some]
   rw [if_pos ⟨Nat.zero_le _,by omega⟩,getElem!_pos _ _ (by omega),Array.getElem?_eq_getElem (by omega)]
   simp
  rw [List.getElem?_eq_none (by rw [List.length_take];omega),List.getElem?_eq_none (by rw [ZD];omega)]
 ·show w.heap.size≤(((Sort.ahead w m).heap.modify g _)++os).size
  simp [Sort.ahead]
 intro k hk hne
 show (((Sort.ahead w m).heap.modify g _)++os)[k]?=_
 rw [Array.getElem?_append_left (by simpa [Sort.ahead] using hk),Array.getElem?_modify]
 have:g≠k:=fun e=>hne (by rw [e])
 simp [Sort.ahead,this]

def Ss (l:List I3):List I3:=l.mergeSort fun x y=>!(ltOf Rq) y x
theorem Mi (l:List I3):(Ss l).length=l.length:=by unfold Ss;simp
theorem Gw {l:List I3} {x:I3}:x ∈ Ss l↔x ∈ l:=by unfold Ss;exact (List.mergeSort_perm l _).mem_iff
theorem Jf (l:List I3):(Ss l).Pairwise fun a b=>ltB b a=false:=by
 have h:=List.pairwise_mergeSort (le:=fun x y=>!(ltOf Rq) y x) (fun a b c h1 h2=>by
  simp only [Bool.not_eq_true',Vw] at *
  cases k:ltB c a
  ·rfl
  ·cases k2:ltB c b
   ·cases k3:ltB b c
    ·have:=Wz k2 k3
     subst this
     rw [h1] at k
     cases k
    have:=Uv k3 k
    rw [this] at h1
    cases h1
   rw [k2] at h2
   cases h2) (fun a b=>by
  simp only [Vw,Bool.or_eq_true,Bool.not_eq_true']
  cases k:ltB b a
  ·exact .inl rfl
  exact .inr (QP k)) l
 exact h.imp fun {a b} h=>by simpa [Vw] using h
theorem Je (xs ys:List I3):ZW (Ss (xs++ys))=Yg xs ys:=MQ (Jf _) fun x=>by rw [Gw,List.mem_append]
theorem MR:∀ {l:List I3},l.length<2→ZW l=l
 | [],_=>rfl
 | [x],_=>rfl
 | x::y::l,h=>by simp at h;omega

theorem FK:∀ w,(isAgg 90).run Tryz.prog w=.ok true w:=Tryz.isAgg90
theorem Fj:∀ w,(Go.sizeOf 90).run Tryz.prog w=.ok 3 w:=Tryz.sizeOf90
theorem Pu (blk off size:Nat) (w:World):CmpLays Tryz.prog 93 #[] I3.cells 3 Rq blk off size w:=fun _ _ _ _ x y=>Rt x y _
theorem Mf (B g n cap:Nat) (xs:List I3) (w:World) (h:w.ownsRow B 90 3 (.slice (some ⟨g,0,none⟩) n cap) n (Zr xs)) (hl:xs.length=n) (hn:n≤1000000) :
  Calls Tryz.prog 92 #[.slice (some ⟨g,0,none⟩) n cap,.func (.func 93) #[] #[]] w fun e w'=>e=.returned (.tuple #[])∧w'.ownsRow B 90 3 (.slice (some ⟨g,0,none⟩) n cap) n (Zr (Ss xs))∧w.grownBy w' (some g):=by
 have eg:∀ args w,(callFunc 93 args).run Tryz.prog w=.ok (.enter 93 args) w:=enters_of Tryz.func93 (by kernel_rfl) rfl
 have k:=AnyQ.slices_SortFunc_total LI 3 FK Fj I3.cells (fun _=>rfl) (fun x v hv=>by unfold I3.cells at hv;simp at hv;rcases hv with rfl | rfl | rfl<;>rfl) Rq JO 93 #[] g 0 cap xs.toArray w eg (Pu g 0 _ w) (Ko h hl) ((h.lt g rfl).2) (by simp;omega) Mt
 have e:xs.toArray.size=n:=by simpa using hl
 rw [e] at k
 refine Calls.mono k ?_
 rintro e' w' ⟨rfl,m,os,rfl⟩
 exact ⟨rfl,Jc (ys:=Ss xs) h hl (by rw [Mi];exact hl)⟩
theorem Qu (a:Option Addr) (cap:Nat) (w:World) :
  Calls Tryz.prog 92 #[.slice a 0 cap,.func (.func 93) #[] #[]] w fun e w'=>e=.returned (.tuple #[])∧w=w':=by
 have k:=AnyF.slices_SortFunc_none LI a cap (.func (.func 93) #[] #[]) w
 refine Calls.mono k ?_
 rintro e' w' ⟨rfl,rfl⟩
 exact ⟨rfl,rfl⟩

def JA (a:Option Addr) (c:Nat):Prop:=(a=none→c=0)∧∀ x,a=some x→x.spot=none
theorem Qs (a0:Option Addr) (n0 c0:Nat) (xs:List I3) (a1:Option Addr) (n1 c1:Nat) (ys:List I3) (w:World) (h0:ZK w a0 n0 c0 xs) (h1:ZK w a1 n1 c1 ys) (m0:n0≤400000) (m1:n1≤400000) (z0:JA a0 c0) (z1:JA a1 c1) :
  Calls Tryz.prog 41 #[.slice a0 n0 c0,.slice a1 n1 c1] w fun e w'=>Ui e w' w.heap.size (Yg xs ys)∧Below w.heap.size w w':=by
 have l0:=h0.1
 have l1:=h1.1
 have bw:Below w.heap.size w (w.alloc (.cells #[.slice a0 n0 c0,.slice a1 n1 c1] 29)):=by go_grown
 have d0:(w.alloc (.cells #[.slice a0 n0 c0,.slice a1 n1 c1] 29)).cell? ⟨w.heap.size,0,none⟩=some (.slice a0 n0 c0):=by simp [go_sem]
 have d1:(w.alloc (.cells #[.slice a0 n0 c0,.slice a1 n1 c1] 29)).cell? ⟨w.heap.size,1,none⟩=some (.slice a1 n1 c1):=by simp [go_sem]
 go_enter Tryz.func41,Tryz.ntmps41
 go_wp2_with fail
 generalize w.alloc (.cells #[.slice a0 n0 c0,.slice a1 n1 c1] 29)=W at *
 refine (Kd w.heap.size a0 n0 c0 xs a1 n1 c1 ys W (h0.below bw) (h1.below bw) m0 m1 z0.1 z1.1 z0.2 z1.2 d0 d1).mono ?_
 rintro e w1 ⟨⟨v,rfl,_,hq⟩,hb1⟩
 have hB:w.heap.size≤W.heap.size:=bw.size
 replace bw:=Zb bw hb1
 have hln:(xs++ys).length=n0+n1:=by rw [List.length_append];omega
 have HM:Hid (ZW (Ss (xs++ys))=Yg xs ys):=Je xs ys
 clear d0 d1 h0 h1 z0 z1 hb1
 generalize xs++ys=zs at *
 by_cases hz:n0+n1=0
 ·obtain ⟨a,c,rfl⟩:∃ a c,v=.slice a 0 c:=by
   rcases hq.2 with ⟨rfl,h9⟩ | ⟨g,cap,cur,hv,_⟩
   ·exact ⟨_,_,rfl⟩
   exact ⟨_,_,by rw [hv,hz]⟩
  have hzs:zs=[]:=List.length_eq_zero_iff.1 (by omega)
  have HR:Hid (∀ e,e=.returned (.slice a 0 c)→Ui e w1 w.heap.size (Yg xs ys)):=fun e he=>by
   rw [← HM.out,hzs]
   refine ⟨_,he,?_⟩
   have e9:ZW (Ss [])=[]:=by simp [Ss,ZW]
   rw [e9]
   rw [hz,hzs] at hq
   exact ZY hq hB
  clear hq HM
  go_wp2_with fail
  refine (Qu a c _).mono ?_
  rintro e w2 ⟨rfl,rfl⟩
  go_wp2_with fail
  refine (SC a 0 c _ (by omega)).mono ?_
  rintro e w2 ⟨rfl,rfl⟩
  go_wp2
  go_ret
  exact ⟨HR.out _ rfl,bw⟩
 obtain ⟨g,c,rfl⟩:=X5 hq (by omega)
 have kS:=Mf _ g (n0+n1) c zs w1 hq hln (by omega)
 have hsl:(Ss zs).length=n0+n1:=by rw [Mi];exact hln
 have hnb:n0+n1≤1000000:=by omega
 generalize n0+n1=n at *
 go_wp2_with fail
 refine kS.mono ?_
 rintro e w2 ⟨rfl,hq2,g2⟩
 have hg:=(hq.lt g rfl).1
 replace bw:=bw.grown g2 bw.size (fun k hk=>by cases hk;omega)
 clear kS hq
 by_cases hn2:n<2
 ·have HR:Hid (∀ e,e=.returned (.slice (some ⟨g,0,none⟩) n c)→Ui e w2 w.heap.size (Yg xs ys)):=fun e he=>by
   rw [← HM.out,MR (by omega)]
   exact ⟨_,he,by rw [hsl];exact ZY hq2 hB⟩
  clear hq2 HM g2
  go_wp2_with fail
  refine (SC _ n c _ (by omega)).mono ?_
  rintro e w3 ⟨rfl,rfl⟩
  go_wp2
  go_ret
  exact ⟨HR.out _ rfl,bw⟩
 have kC:=Mu _ g n c (Ss zs) w2 hq2 hsl (by omega) (by omega)
 clear hq2 g2
 go_wp2_with fail
 refine kC.mono ?_
 rintro e w3 ⟨m,rfl,hq3,g3⟩
 clear kC
 have bw3:=bw.grown g3 bw.size (fun k hk=>by cases hk;omega)
 have HR:Hid (∀ e,e=.returned (.slice (some ⟨g,0,none⟩) m c)→Ui e w3 w.heap.size (Yg xs ys)):=fun e he=>by
  rw [← HM.out]
  exact ⟨_,he,ZY hq3 hB⟩
 clear hq3 g3 HM bw
 go_wp2
 go_ret
 exact ⟨HR.out _ rfl,bw3⟩

end Go.Proofs.YtmhlokahmblboaaGreatDoor
