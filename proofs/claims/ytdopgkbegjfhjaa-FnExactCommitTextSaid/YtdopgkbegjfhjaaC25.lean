/-
  Joined: Ent3.
-/
import Derived.Test.YtdopgkbegjfhjaaC12
import Derived.Test.YtdopgkbegjfhjaaC16
import Derived.Test.YtdopgkbegjfhjaaC24

namespace Go.Proofs.Ytdopgkbegjfhjaa
set_option maxRecDepth 100000
set_option maxHeartbeats 16000000
open Go.RowKit
set_option linter.unusedVariables false
set_option linter.unusedSimpArgs false

def Aprt (u v:Value):Prop:=u.ownBlock=none∨u.ownBlock≠v.ownBlock
def EntsTo (w:World) (B k:Nat) (cs:List Value) (es:List E3):Prop:=
 (∀ t,t<k→cs[t*3]?=some (.string (es.getD t e3d).1)∧OwnE w B (cs.getD (t*3+1) undef) (cs.getD (t*3+2) undef) (es.getD t e3d)) ∧
 ∀ t t',t<k→t'<k→t≠t'→Aprt (cs.getD (t*3+1) undef) (cs.getD (t'*3+1) undef)∧Aprt (cs.getD (t*3+2) undef) (cs.getD (t'*3+2) undef)
theorem EntsTo.below {w w':World} {B k:Nat} {cs:List Value} {es:List E3} (h:EntsTo w B k cs es) (hb:Below w.heap.size w w'):EntsTo w' B k cs es:=⟨fun t ht=>⟨(h.1 t ht).1,(h.1 t ht).2.below hb⟩,h.2⟩
theorem OwnE.setP {w:World} {B P j:Nat} {vb vf:Value} {e:E3} (h:OwnE w B vb vf e) (h1:vb.ownBlock≠some P) (h2:vf.ownBlock≠some P) (u:Value):OwnE (w.setCell ⟨P,j,none⟩ u) B vb vf e:=
 ⟨ownsRow_setCell_other h.1 h1 u,ownsRow_setCell_other h.2 h2 u⟩
theorem aprt_new {w:World} {B B' e s n:Nat} {u v:Value} {xs:List Value} (hu:w.ownsRow B e s u n xs) (hv:∀ x,v.ownBlock=some x→w.heap.size≤x):Aprt u v∧Aprt v u:=by
 constructor
 ·rcases hb:u.ownBlock with _ | x
  ·exact .inl hb
  ·refine .inr ?_
   rw [hb]
   intro h
   have:=(hu.lt x hb).2
   have:=hv x h.symm
   omega
 ·rcases hb:v.ownBlock with _ | x
  ·exact .inl hb
  ·refine .inr ?_
   rw [hb]
   intro h
   have:=(hu.lt x h.symm).2
   have:=hv x hb
   omega
theorem getD_set3 {cs:List Value} {i:Nat} {a b c:Value} (h:i+2<cs.length) :
  (∀ j,j<i∨i+2<j→(((cs.set i a).set (i+1) b).set (i+2) c)[j]?=cs[j]?)∧(((cs.set i a).set (i+1) b).set (i+2) c)[i]?=some a∧(((cs.set i a).set (i+1) b).set (i+2) c)[i+1]?=some b∧(((cs.set i a).set (i+1) b).set (i+2) c)[i+2]?=some c:=by
 refine ⟨fun j hj=>?_,?_,?_,?_⟩
 ·rw [List.getElem?_set_ne (by omega),List.getElem?_set_ne (by omega),List.getElem?_set_ne (by omega)]
 ·rw [List.getElem?_set_ne (by omega),List.getElem?_set_ne (by omega),List.getElem?_set_self (by omega)]
 ·rw [List.getElem?_set_ne (by omega),List.getElem?_set_self (by simp;omega)]
 ·rw [List.getElem?_set_self (by simp;omega)]
theorem EntsTo.put {w w':World} {B P k:Nat} {cs:List Value} {es:List E3} {vb vf:Value} (h:EntsTo w B k cs es) (hb:Below w.heap.size w w') (hk:k*3+2<cs.length)
  (hn:OwnE w' w.heap.size vb vf (es.getD k e3d)) (hB:B≤w.heap.size) (hP:P<w.heap.size) (hPn:∀ t,t<k→(cs.getD (t*3+1) undef).ownBlock≠some P∧(cs.getD (t*3+2) undef).ownBlock≠some P) :
  EntsTo (((w'.setCell ⟨P,k*3,none⟩ (.string (es.getD k e3d).1)).setCell ⟨P,k*3+1,none⟩ vb).setCell ⟨P,k*3+2,none⟩ vf) B (k+1) (((cs.set (k*3) (.string (es.getD k e3d).1)).set (k*3+1) vb).set (k*3+2) vf) es:=by
 obtain ⟨g1,g2,g3,g4⟩:=getD_set3 (a:=.string (es.getD k e3d).1) (b:=vb) (c:=vf) hk
 generalize ((cs.set (k*3) (.string (es.getD k e3d).1)).set (k*3+1) vb).set (k*3+2) vf=ds at *
 have old:∀ t,t<k→ds[t*3]?=cs[t*3]?∧ds.getD (t*3+1) undef=cs.getD (t*3+1) undef∧ds.getD (t*3+2) undef=cs.getD (t*3+2) undef:=fun t ht =>
  ⟨g1 _ (by omega),by rw [List.getD,List.getD,g1 _ (by omega)],by rw [List.getD,List.getD,g1 _ (by omega)]⟩
 have nb:ds.getD (k*3+1) undef=vb:=by rw [List.getD,g3];rfl
 have nf:ds.getD (k*3+2) undef=vf:=by rw [List.getD,g4];rfl
 have lb:∀ x,vb.ownBlock=some x→w.heap.size≤x:=fun x hx=>(hn.1.lt x hx).1
 have lf:∀ x,vf.ownBlock=some x→w.heap.size≤x:=fun x hx=>(hn.2.lt x hx).1
 have pb:vb.ownBlock≠some P:=fun e=>by have:=lb P e;omega
 have pf:vf.ownBlock≠some P:=fun e=>by have:=lf P e;omega
 refine ⟨fun t ht=>?_,fun t t' ht ht' hne=>?_⟩
 ·by_cases e:t=k
  ·subst e
   rw [nb,nf]
   exact ⟨g2,(((hn.lower hB).setP pb pf _).setP pb pf _).setP pb pf _⟩
  ·obtain ⟨o1,o2,o3⟩:=old t (by omega)
   obtain ⟨h1,h2⟩:=h.1 t (by omega)
   obtain ⟨q1,q2⟩:=hPn t (by omega)
   rw [o1,o2,o3]
   exact ⟨h1,(((h2.below hb).setP q1 q2 _).setP q1 q2 _).setP q1 q2 _⟩
 ·by_cases e:t=k
  ·subst e
   obtain ⟨_,o2,o3⟩:=old t' (by omega)
   obtain ⟨_,h2⟩:=h.1 t' (by omega)
   rw [nb,nf,o2,o3]
   exact ⟨(aprt_new (B':=0) h2.1 lb).2,(aprt_new (B':=0) h2.2 lf).2⟩
  ·obtain ⟨_,o2,o3⟩:=old t (by omega)
   by_cases e':t'=k
   ·subst e'
    obtain ⟨_,h2⟩:=h.1 t (by omega)
    rw [nb,nf,o2,o3]
    exact ⟨(aprt_new (B':=0) h2.1 lb).1,(aprt_new (B':=0) h2.2 lf).1⟩
   ·obtain ⟨_,o2',o3'⟩:=old t' (by omega)
    rw [o2,o3,o2',o3']
    exact h.2 t t' (by omega) (by omega) hne

end Go.Proofs.Ytdopgkbegjfhjaa
