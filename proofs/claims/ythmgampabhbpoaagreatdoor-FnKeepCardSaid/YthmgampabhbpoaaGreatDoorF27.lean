/-
  Joined: Ent2, Ent3, MrkT, Ent5.
-/
import Derived.Test.YthmgampabhbpoaaGreatDoorF26

namespace Go.Proofs.YthmgampabhbpoaaGreatDoor
set_option maxRecDepth 100000
set_option maxHeartbeats 16000000
open Go.RowKit
set_option linter.unusedVariables false
set_option linter.unusedSimpArgs false

def OwnE (w:World) (B:Nat) (vb vf:Value) (e:E3):Prop:=w.ownsRow B 110 3 vb e.2.1.length (flat e.2.1)∧w.ownsRow B 3 1 vf e.2.2.length (e.2.2.map (Value.int .i64))
theorem OwnE.below {w w':World} {B:Nat} {vb vf:Value} {e:E3} (h:OwnE w B vb vf e) (hb:Below w.heap.size w w'):OwnE w' B vb vf e:=⟨owns8 h.1 hb,owns8 h.2 hb⟩
theorem OwnE.lower {w:World} {B B':Nat} {vb vf:Value} {e:E3} (h:OwnE w B vb vf e) (hB:B'≤B):OwnE w B' vb vf e:=⟨lower8 h.1 hB,lower8 h.2 hB⟩
theorem OwnE.slices {w:World} {B:Nat} {vb vf:Value} {e:E3} (h:OwnE w B vb vf e):∃ s:Sl2,vb=.slice s.1.1 s.1.2.1 s.1.2.2∧vf=.slice s.2.1 s.2.2.1 s.2.2.2:=by
 obtain ⟨a,c,e1⟩:=slice8 h.1
 obtain ⟨a',c',e2⟩:=slice8 h.2
 exact ⟨((a,_,c),(a',_,c')),e1,e2⟩
theorem Instrs.of_ownB9 {w:World} {B:Nat} {v:Value} {xs:List I3} (h:w.ownsRow B 110 3 v xs.length (flat xs)) (hf:∀ x ∈ xs,I3.fits x):∃ a cap,v=.slice a xs.length cap∧Instrs w a xs.length cap xs:=by
 rcases h.2 with ⟨hv,h0⟩ | ⟨g,cap,cur,hv,_⟩
 ·obtain rfl:xs=[]:=List.eq_nil_of_length_eq_zero h0
  exact ⟨none,0,hv,rfl,Nat.le_refl _,by unfold maxLen;omega,by simp,.inl rfl⟩
 ·subst hv
  exact ⟨_,_,rfl,Instrs.of_owns h rfl hf rfl⟩
def E3.fits (e:E3):Prop:=e.1.size≤maxLen∧(∀ x ∈ e.2.1,I3.fits x)∧∀ z ∈ e.2.2,(Lit.int .i64 z).wf=true
theorem Emem.fits {w:World} {s:Sl2} {e:E3} (h:Emem w s e):e.fits:=⟨h.1.1,h.2.1.2.2.2.1,h.2.2.2⟩
theorem own_nil0 {w:World} {B e s n:Nat} {a:Option Addr} {m c:Nat} {xs:List Value} (h:w.ownsRow B e s (.slice a m c) n xs):a=none→c=0:=by
 rcases h.2 with ⟨hv,_⟩ | ⟨g,cap,cur,hv,_⟩
 ·injection hv with e1 e2 e3
  exact fun _=>e3
 ·injection hv with e1 e2 e3
  intro ha
  rw [ha] at e1
  cases e1
theorem OwnE.mem {w:World} {B:Nat} {s:Sl2} {e:E3} (h:OwnE w B (.slice s.1.1 s.1.2.1 s.1.2.2) (.slice s.2.1 s.2.2.1 s.2.2.2) e) (hf:e.fits):Emem w s e:=by
 obtain ⟨⟨a1,n1,c1⟩,⟨a2,n2,c2⟩⟩:=s
 obtain ⟨h1,h2⟩:=h
 simp only at h1 h2
 refine ⟨⟨hf.1,own_nil0 h1,own_nil0 h2⟩,?_,?_,hf.2.2⟩
 ·obtain ⟨a,cap,hv,hI⟩:=Instrs.of_ownB9 h1 hf.2.1
  injection hv with e1 e2 e3
  subst e1 e2 e3
  exact hI
 ·obtain ⟨a,cap,hv⟩:=slice8 h2
  injection hv with e1 e2 e3
  subst e1 e2 e3
  exact ints8 h2


theorem info_entry:(Tryz.prog.info? 33).map (fun i=>(i.zero,i.size,i.bytes))=some (some (.agg #[.string ⟨#[]⟩,.slice none 0 0,.slice none 0 0]),3,64):=by kernel_rfl

def Aprt (u v:Value):Prop:=u.ownBlock=none∨u.ownBlock≠v.ownBlock
def EntsTo (w:World) (B k:Nat) (cs:List Value) (es:List E3):Prop:=
 (∀ t,t<k→cs[t*3]?=some (.string (es.getD t e3d).1)∧OwnE w B (cs.getD (t*3+1) undef) (cs.getD (t*3+2) undef) (es.getD t e3d)) ∧
 ∀ t t',t<k→t'<k→t≠t'→Aprt (cs.getD (t*3+1) undef) (cs.getD (t'*3+1) undef)∧Aprt (cs.getD (t*3+2) undef) (cs.getD (t'*3+2) undef)
theorem EntsTo.below {w w':World} {B k:Nat} {cs:List Value} {es:List E3} (h:EntsTo w B k cs es) (hb:Below w.heap.size w w'):EntsTo w' B k cs es:=⟨fun t ht=>⟨(h.1 t ht).1,(h.1 t ht).2.below hb⟩,h.2⟩
theorem OwnE.setP {w:World} {B P j:Nat} {vb vf:Value} {e:E3} (h:OwnE w B vb vf e) (h1:vb.ownBlock≠some P) (h2:vf.ownBlock≠some P) (u:Value):OwnE (w.setCell ⟨P,j,none⟩ u) B vb vf e:=
 ⟨ownsRow_setCell_other h.1 h1 u,ownsRow_setCell_other h.2 h2 u⟩
theorem aprt_new {w:World} {B B' e s n:Nat} {u v:Value} {xs:List Value} (hu:w.ownsRow B e s u n xs) (hv:∀ x,v.ownBlock=some x→w.heap.size≤x):Aprt u v∧Aprt v u:=by
 constructor
 ·rcases hb:u.ownBlock with _ | x
  ·exact .inl hb
  ·refine .inr ?_
   rw [hb]
   intro h
   have:=(hu.lt x hb).2
   have:=hv x h.symm
   omega
 ·rcases hb:v.ownBlock with _ | x
  ·exact .inl hb
  ·refine .inr ?_
   rw [hb]
   intro h
   have:=(hu.lt x h.symm).2
   have:=hv x hb
   omega
theorem getD_set3 {cs:List Value} {i:Nat} {a b c:Value} (h:i+2<cs.length) :
  (∀ j,j<i∨i+2<j→(((cs.set i a).set (i+1) b).set (i+2) c)[j]?=cs[j]?)∧(((cs.set i a).set (i+1) b).set (i+2) c)[i]?=some a∧(((cs.set i a).set (i+1) b).set (i+2) c)[i+1]?=some b∧(((cs.set i a).set (i+1) b).set (i+2) c)[i+2]?=some c:=by
 refine ⟨fun j hj=>?_,?_,?_,?_⟩
 ·rw [List.getElem?_set_ne (by omega),List.getElem?_set_ne (by omega),List.getElem?_set_ne (by omega)]
 ·rw [List.getElem?_set_ne (by omega),List.getElem?_set_ne (by omega),List.getElem?_set_self (by omega)]
 ·rw [List.getElem?_set_ne (by omega),List.getElem?_set_self (by simp;omega)]
 ·rw [List.getElem?_set_self (by simp;omega)]
theorem EntsTo.put {w w':World} {B P k:Nat} {cs:List Value} {es:List E3} {vb vf:Value} (h:EntsTo w B k cs es) (hb:Below w.heap.size w w') (hk:k*3+2<cs.length)
  (hn:OwnE w' w.heap.size vb vf (es.getD k e3d)) (hB:B≤w.heap.size) (hP:P<w.heap.size) (hPn:∀ t,t<k→(cs.getD (t*3+1) undef).ownBlock≠some P∧(cs.getD (t*3+2) undef).ownBlock≠some P) :
  EntsTo (((w'.setCell ⟨P,k*3,none⟩ (.string (es.getD k e3d).1)).setCell ⟨P,k*3+1,none⟩ vb).setCell ⟨P,k*3+2,none⟩ vf) B (k+1) (((cs.set (k*3) (.string (es.getD k e3d).1)).set (k*3+1) vb).set (k*3+2) vf) es:=by
 obtain ⟨g1,g2,g3,g4⟩:=getD_set3 (a:=.string (es.getD k e3d).1) (b:=vb) (c:=vf) hk
 generalize ((cs.set (k*3) (.string (es.getD k e3d).1)).set (k*3+1) vb).set (k*3+2) vf=ds at *
 have old:∀ t,t<k→ds[t*3]?=cs[t*3]?∧ds.getD (t*3+1) undef=cs.getD (t*3+1) undef∧ds.getD (t*3+2) undef=cs.getD (t*3+2) undef:=fun t ht =>
  ⟨g1 _ (by omega),by rw [List.getD,List.getD,g1 _ (by omega)],by rw [List.getD,List.getD,g1 _ (by omega)]⟩
 have nb:ds.getD (k*3+1) undef=vb:=by rw [List.getD,g3];rfl
 have nf:ds.getD (k*3+2) undef=vf:=by rw [List.getD,g4];rfl
 have lb:∀ x,vb.ownBlock=some x→w.heap.size≤x:=fun x hx=>(hn.1.lt x hx).1
 have lf:∀ x,vf.ownBlock=some x→w.heap.size≤x:=fun x hx=>(hn.2.lt x hx).1
 have pb:vb.ownBlock≠some P:=fun e=>by have:=lb P e;omega
 have pf:vf.ownBlock≠some P:=fun e=>by have:=lf P e;omega
 refine ⟨fun t ht=>?_,fun t t' ht ht' hne=>?_⟩
 ·by_cases e:t=k
  ·subst e
   rw [nb,nf]
   exact ⟨g2,(((hn.lower hB).setP pb pf _).setP pb pf _).setP pb pf _⟩
  ·obtain ⟨o1,o2,o3⟩:=old t (by omega)
   obtain ⟨h1,h2⟩:=h.1 t (by omega)
   obtain ⟨q1,q2⟩:=hPn t (by omega)
   rw [o1,o2,o3]
   exact ⟨h1,(((h2.below hb).setP q1 q2 _).setP q1 q2 _).setP q1 q2 _⟩
 ·by_cases e:t=k
  ·subst e
   obtain ⟨_,o2,o3⟩:=old t' (by omega)
   obtain ⟨_,h2⟩:=h.1 t' (by omega)
   rw [nb,nf,o2,o3]
   exact ⟨(aprt_new (B':=0) h2.1 lb).2,(aprt_new (B':=0) h2.2 lf).2⟩
  ·obtain ⟨_,o2,o3⟩:=old t (by omega)
   by_cases e':t'=k
   ·subst e'
    obtain ⟨_,h2⟩:=h.1 t (by omega)
    rw [nb,nf,o2,o3]
    exact ⟨(aprt_new (B':=0) h2.1 lb).1,(aprt_new (B':=0) h2.2 lf).1⟩
   ·obtain ⟨_,o2',o3'⟩:=old t' (by omega)
    rw [o2,o3,o2',o3']
    exact h.2 t t' (by omega) (by omega) hne

def OwnM (w:World) (B:Nat) (v:Value) (es:List E3):Prop:=∃ cs,w.ownsRow B 33 3 v es.length cs∧EntsTo w B es.length cs es
theorem OwnM.below {w w':World} {B:Nat} {v:Value} {es:List E3} (h:OwnM w B v es) (hb:Below w.heap.size w w'):OwnM w' B v es:=by
 obtain ⟨cs,h1,h2⟩:=h
 exact ⟨cs,owns8 h1 hb,h2.below hb⟩
theorem OwnM.ents {w:World} {B:Nat} {a:Option Addr} {len cap:Nat} {es:List E3} (h:OwnM w B (.slice a len cap) es) (hf:∀ e ∈ es,e.fits):Ents w a len cap es:=by
 obtain ⟨cs,h1,h2⟩:=h
 rcases h1.2 with ⟨hv,h0⟩ | ⟨g,cap',cur,hv,_,hh,hn,hcm,_⟩
 ·injection hv with e1 e2 e3
  subst e1 e2 e3
  obtain rfl:es=[]:=List.eq_nil_of_length_eq_zero h0
  exact ⟨rfl,Nat.le_refl _,by unfold maxLen;omega,.inl rfl⟩
 ·injection hv with e1 e2 e3
  subst e1 e2 e3
  have hl:=h1.1
  refine ⟨rfl,hn,hcm,.inr ⟨g,0,rfl,(h1.lt g rfl).2,fun t ht=>?_⟩⟩
  have hc:=fun j (hj:j<es.length*3)=>h1.cellAt j hj
  obtain ⟨k1,k2⟩:=h2.1 t ht
  obtain ⟨s,e1,e2⟩:=k2.slices
  have hg:∀ j,j<cs.length→cs[j]?=some (cs.getD j undef):=fun j hj=>by simp [List.getD,List.getElem?_eq_getElem hj]
  refine ⟨s,?_,?_,?_,?_⟩
  ·rw [Nat.zero_add,hc _ (by omega)];exact k1
  ·rw [Nat.zero_add,hc _ (by omega),hg _ (by omega),e1]
  ·rw [Nat.zero_add,hc _ (by omega),hg _ (by omega),e2]
  ·rw [e1,e2] at k2
   exact k2.mem (hf _ (by simp [List.getD,List.getElem?_eq_getElem ht]))
theorem Ents.fits {w:World} {a:Option Addr} {len cap:Nat} {es:List E3} (h:Ents w a len cap es):∀ e ∈ es,e.fits:=by
 intro e he
 obtain ⟨t,ht,rfl⟩:=List.getElem_of_mem he
 obtain ⟨h1,_,_,hc⟩:=h
 rcases hc with h0 | ⟨b,off,_,_,hc⟩
 ·omega
 ·obtain ⟨s,_,_,_,hm⟩:=hc t (by omega)
  have e2:es.getD t e3d=es[t]:=by simp [List.getD,List.getElem?_eq_getElem ht]
  rw [e2] at hm
  exact hm.fits

theorem OwnE.low {w:World} {B:Nat} {vb vf:Value} {e:E3} (h:OwnE w B vb vf e) {p:Addr} (hp:p.block<B) (u:Value):OwnE (w.setCell p u) B vb vf e:=⟨ownsRow_setCell_below h.1 hp u,ownsRow_setCell_below h.2 hp u⟩
theorem OwnM.low {w:World} {B:Nat} {v:Value} {es:List E3} (h:OwnM w B v es) {p:Addr} (hp:p.block<B) (u:Value):OwnM (w.setCell p u) B v es:=by
 obtain ⟨cs,h1,h2,h3⟩:=h
 exact ⟨cs,ownsRow_setCell_below h1 hp u,fun t ht=>⟨(h2 t ht).1,(h2 t ht).2.low hp u⟩,h3⟩


def Mid9 (B T:Nat) (w w':World):Prop:=Below B w w'∧∀ j,T≤j→j<w.heap.size→w'.heap[j]?=w.heap[j]?
theorem Mid9.refl (B T:Nat) (w:World):Mid9 B T w w:=⟨Below.refl _ _,fun _ _ _=>rfl⟩
def OwnProgT (w:World) (B T:Nat) (v:Value) (rows:List (List I3)):Prop:=∃ vs,w.ownsRow B 156 1 v rows.length vs∧OwnRows w B vs rows∧∀ u ∈ vs,∀ x,u.ownBlock=some x→x<T
theorem OwnProgT.below {w w':World} {B T:Nat} {v:Value} {rows:List (List I3)} (h:OwnProgT w B T v rows) (hb:Below w.heap.size w w'):OwnProgT w' B T v rows:=by
 obtain ⟨vs,h1,h2,h3⟩:=h
 exact ⟨vs,owns_below h1 hb,h2.below hb,h3⟩


def OwnMT (w:World) (B T:Nat) (v:Value) (es:List E3):Prop:=∃ cs,w.ownsRow B 33 3 v es.length cs∧EntsTo w B es.length cs es∧(∀ x,v.ownBlock=some x→x<T)∧∀ t,t<es.length→(∀ x,(cs.getD (t*3+1) undef).ownBlock=some x→x<T)∧∀ x,(cs.getD (t*3+2) undef).ownBlock=some x→x<T
theorem OwnMT.below {w w':World} {B T:Nat} {v:Value} {es:List E3} (h:OwnMT w B T v es) (hb:Below w.heap.size w w'):OwnMT w' B T v es:=by
 obtain ⟨cs,h1,h2,h3,h4⟩:=h
 exact ⟨cs,owns8 h1 hb,h2.below hb,h3,h4⟩
theorem getD_setE {L:List E3} {j t:Nat} {x:E3} (hj:j<L.length):(L.set j x).getD t e3d=if t=j then x else L.getD t e3d:=by
 by_cases e:t=j
 ·subst e;simp [List.getD,hj]
 ·rw [if_neg e];simp [List.getD,List.getElem?_set_ne (Ne.symm e)]

theorem EntsTo.key {w:World} {B P j:Nat} {cs:List Value} {L:List E3} {s:ByteArray} (h:EntsTo w B L.length cs L) (hj:j<L.length) (hc:j*3+2<cs.length) (hP:∀ t,t<L.length→(cs.getD (t*3+1) undef).ownBlock≠some P∧(cs.getD (t*3+2) undef).ownBlock≠some P) :
  EntsTo (w.setCell ⟨P,j*3,none⟩ (.string s)) B (L.set j (s,(L.getD j e3d).2)).length (cs.set (j*3) (.string s)) (L.set j (s,(L.getD j e3d).2)):=by
 rw [List.length_set]
 have o:∀ i,i≠j*3→(cs.set (j*3) (.string s))[i]?=cs[i]?:=fun i hi=>List.getElem?_set_ne (Ne.symm hi)
 have o1:∀ t,(cs.set (j*3) (.string s)).getD (t*3+1) undef=cs.getD (t*3+1) undef:=fun t=>by rw [List.getD,List.getD,o _ (by omega)]
 have o2:∀ t,(cs.set (j*3) (.string s)).getD (t*3+2) undef=cs.getD (t*3+2) undef:=fun t=>by rw [List.getD,List.getD,o _ (by omega)]
 refine ⟨fun t ht=>?_,fun t t' ht ht' hne=>by rw [o1,o1,o2,o2];exact h.2 t t' ht ht' hne⟩
 rw [o1,o2,getD_setE hj]
 obtain ⟨q1,q2⟩:=hP t ht
 have h2:=(h.1 t ht).2.setP (j:=j*3) q1 q2 (.string s)
 by_cases e:t=j
 ·subst e
  rw [if_pos rfl]
  exact ⟨by rw [List.getElem?_set_self (by omega)],h2⟩
 ·rw [if_neg e,o _ (by omega)]
  exact ⟨(h.1 t ht).1,h2⟩
end Go.Proofs.YthmgampabhbpoaaGreatDoor
