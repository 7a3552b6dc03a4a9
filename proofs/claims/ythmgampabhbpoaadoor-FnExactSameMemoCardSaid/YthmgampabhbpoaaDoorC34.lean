/-
  Joined: MrkT, Ent5.
-/
import Derived.Test.YthmgampabhbpoaaDoorC15

namespace Go.Proofs.YthmgampabhbpoaaDoor
set_option maxRecDepth 100000
set_option maxHeartbeats 16000000
open Go.RowKit
set_option linter.unusedVariables false
set_option linter.unusedSimpArgs false

def Mid9 (B T:Nat) (w w':World):Prop:=Below B w w'∧∀ j,T≤j→j<w.heap.size→w'.heap[j]?=w.heap[j]?
theorem Mid9.refl (B T:Nat) (w:World):Mid9 B T w w:=⟨Below.refl _ _,fun _ _ _=>rfl⟩


def OwnMT (w:World) (B T:Nat) (v:Value) (es:List E3):Prop:=∃ cs,w.ownsRow B 30 3 v es.length cs∧EntsTo w B es.length cs es∧(∀ x,v.ownBlock=some x→x<T)∧∀ t,t<es.length→(∀ x,(cs.getD (t*3+1) undef).ownBlock=some x→x<T)∧∀ x,(cs.getD (t*3+2) undef).ownBlock=some x→x<T
theorem OwnMT.below {w w':World} {B T:Nat} {v:Value} {es:List E3} (h:OwnMT w B T v es) (hb:Below w.heap.size w w'):OwnMT w' B T v es:=by
 obtain ⟨cs,h1,h2,h3,h4⟩:=h
 exact ⟨cs,owns8 h1 hb,h2.below hb,h3,h4⟩
theorem getD_setE {L:List E3} {j t:Nat} {x:E3} (hj:j<L.length):(L.set j x).getD t e3d=if t=j then x else L.getD t e3d:=by
 by_cases e:t=j
 ·subst e;simp [List.getD,hj]
 ·rw [if_neg e];simp [List.getD,List.getElem?_set_ne (Ne.symm e)]

theorem EntsTo.key {w:World} {B P j:Nat} {cs:List Value} {L:List E3} {s:ByteArray} (h:EntsTo w B L.length cs L) (hj:j<L.length) (hc:j*3+2<cs.length) (hP:∀ t,t<L.length→(cs.getD (t*3+1) undef).ownBlock≠some P∧(cs.getD (t*3+2) undef).ownBlock≠some P) :
  EntsTo (w.setCell ⟨P,j*3,none⟩ (.string s)) B (L.set j (s,(L.getD j e3d).2)).length (cs.set (j*3) (.string s)) (L.set j (s,(L.getD j e3d).2)):=by
 rw [List.length_set]
 have o:∀ i,i≠j*3→(cs.set (j*3) (.string s))[i]?=cs[i]?:=fun i hi=>List.getElem?_set_ne (Ne.symm hi)
 have o1:∀ t,(cs.set (j*3) (.string s)).getD (t*3+1) undef=cs.getD (t*3+1) undef:=fun t=>by rw [List.getD,List.getD,o _ (by omega)]
 have o2:∀ t,(cs.set (j*3) (.string s)).getD (t*3+2) undef=cs.getD (t*3+2) undef:=fun t=>by rw [List.getD,List.getD,o _ (by omega)]
 refine ⟨fun t ht=>?_,fun t t' ht ht' hne=>by rw [o1,o1,o2,o2];exact h.2 t t' ht ht' hne⟩
 rw [o1,o2,getD_setE hj]
 obtain ⟨q1,q2⟩:=hP t ht
 have h2:=(h.1 t ht).2.setP (j:=j*3) q1 q2 (.string s)
 by_cases e:t=j
 ·subst e
  rw [if_pos rfl]
  exact ⟨by rw [List.getElem?_set_self (by omega)],h2⟩
 ·rw [if_neg e,o _ (by omega)]
  exact ⟨(h.1 t ht).1,h2⟩
end Go.Proofs.YthmgampabhbpoaaDoor
