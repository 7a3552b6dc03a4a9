/-
  Joined: FulP, FulQ.
-/
import Derived.Test.YtfpopbbmnbehiaaDoorB27
import Derived.Test.YtfpopbbmnbehiaaDoorB31

namespace Go.Proofs.YtfpopbbmnbehiaaDoor
set_option maxRecDepth 100000
set_option maxHeartbeats 16000000
set_option linter.unusedVariables false

section
variable {σ : Type} [DecidableEq σ]
abbrev Rec6 (σ:Type):=σ × Nat × Int
def hasS (S:List (Rec6 σ)) (x:σ):Bool:=S.any fun r=>decide (r.1=x)
theorem hasS_iff {S:List (Rec6 σ)} {x:σ}:hasS S x=true↔x ∈ S.map (·.1):=by
 unfold hasS
 simp
def putS (i:Nat) (S:List (Rec6 σ)) (kx:Int × σ):List (Rec6 σ):=if hasS S kx.2 then S else S++[(kx.2,i,kx.1)]
def onS (i:Nat) (S:List (Rec6 σ)) (ts:List (Int × σ)):List (Rec6 σ):=ts.foldl (putS i) S
def srch (nx:σ→List (Int × σ)):Nat→Nat→List (Rec6 σ)→List (Rec6 σ)
 | 0,_,S=>S
 | f+1,i,S=>match S[i]? with
  | none=>S
  | some r=>srch nx f (i+1) (onS i S (nx r.1))
theorem putS_pre (i:Nat) (S:List (Rec6 σ)) (kx:Int × σ):S <+: putS i S kx:=by
 unfold putS
 split
 ·exact List.prefix_refl _
 ·exact List.prefix_append _ _
theorem onS_pre (i:Nat):∀ (ts:List (Int × σ)) (S:List (Rec6 σ)),S <+: onS i S ts
 | [],S=>List.prefix_refl _
 | t::ts,S=>(putS_pre i S t).trans (onS_pre i ts (putS i S t))
theorem srch_pre (nx:σ→List (Int × σ)):∀ (f i:Nat) (S:List (Rec6 σ)),S <+: srch nx f i S
 | 0,_,S=>List.prefix_refl _
 | f+1,i,S=>by
  unfold srch
  split
  ·exact List.prefix_refl _
  ·exact (onS_pre i _ S).trans (srch_pre nx f (i+1) _)
theorem srch_end {nx:σ→List (Int × σ)} {f i:Nat} {S:List (Rec6 σ)} (h:S.length≤i):srch nx f i S=S:=by
 cases f with
 | zero=>rfl
 | succ f=>unfold srch;rw [List.getElem?_eq_none h]
theorem srch_go {nx:σ→List (Int × σ)} {f i:Nat} {S:List (Rec6 σ)} (h:i<S.length):srch nx (f+1) i S=srch nx f (i+1) (onS i S (nx (S[i]'h).1)):=by
 conv=>lhs;unfold srch
 rw [List.getElem?_eq_getElem h]
theorem onS_cons (i:Nat) (S:List (Rec6 σ)) (t:Int × σ) (ts:List (Int × σ)):onS i S (t::ts)=onS i (putS i S t) ts:=rfl
theorem putS_has (i:Nat) (S:List (Rec6 σ)) (kx:Int × σ):kx.2 ∈ (putS i S kx).map (·.1):=by
 unfold putS
 split
 ·rename_i h;exact hasS_iff.1 h
 ·simp
def Came (nx:σ→List (Int × σ)) (S:List (Rec6 σ)):Prop:=∀ j r,0<j→S[j]?=some r→r.2.1<j∧∃ q,S[r.2.1]?=some q∧(r.2.2,r.1) ∈ nx q.1
theorem putS_came {nx:σ→List (Int × σ)} {i:Nat} {S:List (Rec6 σ)} {kx:Int × σ} {q:Rec6 σ} (h:Came nx S) (hq:S[i]?=some q) (hm:kx ∈ nx q.1):Came nx (putS i S kx)∧(putS i S kx)[i]?=some q:=by
 have hi:i<S.length:=(List.getElem?_eq_some_iff.1 hq).1
 unfold putS
 split
 ·exact ⟨h,hq⟩
 ·refine ⟨fun j r hj hr=>?_,by rw [List.getElem?_append_left hi];exact hq⟩
  by_cases hjl:j<S.length
  ·rw [List.getElem?_append_left hjl] at hr
   obtain ⟨h1,q',h2,h3⟩:=h j r hj hr
   exact ⟨h1,q',by rw [List.getElem?_append_left (by omega)];exact h2,h3⟩
  ·have e:j=S.length:=by
    have:=(List.getElem?_eq_some_iff.1 hr).1
    simp at this
    omega
   subst e
   simp at hr
   subst hr
   exact ⟨hi,q,by rw [List.getElem?_append_left hi];exact hq,hm⟩
theorem onS_came {nx:σ→List (Int × σ)} {i:Nat} {q:Rec6 σ}:∀ (ts:List (Int × σ)) (S:List (Rec6 σ)),Came nx S→S[i]?=some q→(∀ t ∈ ts,t ∈ nx q.1)→Came nx (onS i S ts)
 | [],S,h,_,_=>h
 | t::ts,S,h,hq,hm=>by
  obtain ⟨h1,h2⟩:=putS_came h hq (hm t (by simp))
  exact onS_came ts _ h1 h2 (fun u hu=>hm u (by simp [hu]))
theorem srch_came {nx:σ→List (Int × σ)}:∀ (f i:Nat) (S:List (Rec6 σ)),Came nx S→Came nx (srch nx f i S)
 | 0,_,S,h=>h
 | f+1,i,S,h=>by
  unfold srch
  split
  ·exact h
  ·rename_i r hr
   exact srch_came f (i+1) _ (onS_came _ S h hr (fun t ht=>ht))
end


def nxM (rows:List (List I3)) (m:V4):List (Int × V4):=(enabM rows m 3).map fun k=>(k,(goM rows m k).1)
theorem nxM_mem {rows:List (List I3)} {m:V4} {t:Int × V4} (h:t ∈ nxM rows m):haltM rows m t.1=0∧t.2=(goM rows m t.1).1:=by
 unfold nxM at h
 obtain ⟨k,hk,rfl⟩:=List.mem_map.1 h
 obtain ⟨i,hi,hie⟩:=List.getElem_of_mem hk
 obtain ⟨k',e,h3,hc⟩:=enab_at hi
 have e2:(enabM rows m 3).getD i 0=k:=by simp [List.getD,hi,hie]
 rw [e2] at e
 subst e
 exact ⟨halt_go h3 hc,rfl⟩
theorem nxM_shape {rows:List (List I3)} {m:V4} (hp:progOk rows=true) (hs:shapeOk m=true) {t:Int × V4} (h:t ∈ nxM rows m):shapeOk t.2=true:=by
 obtain ⟨h1,h2⟩:=nxM_mem h
 rw [h2]
 exact goM_shape hp hs h1
def fullS (rows:List (List I3)):List (Rec6 V4):=srch (nxM rows) 2000 0 [(zeroV,0,0)]
def Shaped (S:List (Rec6 V4)):Prop:=∀ r ∈ S,shapeOk r.1=true
theorem putS_shaped {i:Nat} {S:List (Rec6 V4)} {t:Int × V4} (h:Shaped S) (ht:shapeOk t.2=true):Shaped (putS i S t):=by
 unfold putS
 split
 ·exact h
 ·intro r hr
  rcases List.mem_append.1 hr with hr | hr
  ·exact h r hr
  ·simp at hr
   subst hr
   exact ht
theorem onS_shaped {i:Nat}:∀ (ts:List (Int × V4)) (S:List (Rec6 V4)),Shaped S→(∀ t ∈ ts,shapeOk t.2=true)→Shaped (onS i S ts)
 | [],S,h,_=>h
 | t::ts,S,h,ht=>onS_shaped ts _ (putS_shaped h (ht t (by simp))) (fun u hu=>ht u (by simp [hu]))
theorem srch_shaped {rows:List (List I3)} (hp:progOk rows=true):∀ (f i:Nat) (S:List (Rec6 V4)),Shaped S→Shaped (srch (nxM rows) f i S)
 | 0,_,S,h=>h
 | f+1,i,S,h=>by
  unfold srch
  split
  ·exact h
  ·rename_i r hr
   exact srch_shaped hp f (i+1) _ (onS_shaped _ S h (fun t ht=>nxM_shape hp (h r (List.mem_of_getElem? hr)) ht))
theorem fullS_shaped {rows:List (List I3)} (hp:progOk rows=true):Shaped (fullS rows):=srch_shaped hp _ _ _ (fun r hr=>by simp at hr;subst hr;exact zero_shape)
theorem fullS_head (rows:List (List I3)):(fullS rows)[0]?=some (zeroV,0,0):=by
 obtain ⟨r,hr⟩:=srch_pre (nxM rows) 2000 0 [(zeroV,0,0)]
 unfold fullS
 rw [← hr]
 rfl
theorem fullS_came (rows:List (List I3)):Came (nxM rows) (fullS rows):=srch_came _ _ _ (fun j r hj hr=>by
 match j,hj with
 | j+1,_=>simp at hr)
def pathS (S:List (Rec6 V4)):Nat→Nat→List Int
 | 0,_=>[]
 | f+1,j=>if j=0 then [] else match S[j]? with
  | none=>[]
  | some r=>pathS S f r.2.1++[r.2.2]
end Go.Proofs.YtfpopbbmnbehiaaDoor
