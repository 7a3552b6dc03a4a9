/-
  Joined: RecP, Ent3, MrkT, Ent5, Ent7, RwL9, Ent8, RdF.
-/
import Derived.Test.YtdopgkbegjfhjaaGreatDoorL17

namespace Go.Proofs.YtdopgkbegjfhjaaGreatDoor
set_option maxRecDepth 100000
set_option maxHeartbeats 16000000
open Go.RowKit
set_option linter.unusedVariables false
set_option linter.unusedSimpArgs false

abbrev R2:=Int × ByteArray
def R2.val (r:R2):Value:=.agg #[.int .i64 r.1,.string r.2]

def ComOk (t:ByteArray):Prop:=∃ zs,Listed t zs∧zs.length % 3=0∧zs.length≤90∧riseB (triples (ofNats zs))=true
def VerOk (t:ByteArray):Prop:=∃ rows,IsProg t rows 0
def EntTOk (t:ByteArray):Prop:=∃ e,RdOk t e
def RecOk (r:R2):Prop:=r.2.size<1000∧(r.1=1∧VerOk r.2∨r.1=2∧EntTOk r.2∨r.1=3∧ComOk r.2)
theorem RecOk.kind {r:R2} (h:RecOk r):1≤r.1∧r.1≤3:=by
 rcases h.2 with ⟨h,_⟩ | ⟨h,_⟩ | ⟨h,_⟩<;>omega
open Classical in
noncomputable def recB (r:R2):Bool:=decide (RecOk r)
open Classical in
theorem recB_yes {r:R2} (h:RecOk r):recB r=true:=decide_eq_true h
open Classical in
theorem recB_no {r:R2} (h:¬ RecOk r):recB r=false:=decide_eq_false h
open Classical in
theorem recB_iff (r:R2):recB r=true↔RecOk r:=by unfold recB;exact decide_eq_true_iff
theorem verOk_c {t:ByteArray} {rows:List (List I3)} {c:Int} (h:IsProg t rows c):VerOk t↔c=0:=by
 constructor
 ·rintro ⟨r',g⟩
  exact (h.same g).2
 ·rintro rfl
  exact ⟨rows,h⟩

def recT (r:R2):ByteArray:=strOfNums [48+r.1]++r.2
theorem recT_size (r:R2):(recT r).size=1+r.2.size:=by
 unfold recT
 rw [ByteArray.size_append,strOfNums_size]
 rfl

def Nxt (t:ByteArray) (r:R2) (n:Nat):Prop:=∃ m k,Framed t m k∧sumAt t k=sumTo (frameText t m k) (frameText t m k).size∧0<m∧r=((bt (frameText t m k) 0:Int) - 48,(frameText t m k).extract 1 m)∧RecOk r∧n=k+2+m
theorem Nxt.only {t:ByteArray} {r r':R2} {n n':Nat} (h:Nxt t r n) (g:Nxt t r' n'):r=r'∧n=n':=by
 obtain ⟨m,k,hf,_,_,rfl,_,rfl⟩:=h
 obtain ⟨m',k',gf,_,_,rfl,_,rfl⟩:=g
 obtain ⟨rfl,rfl⟩:=hf.only gf
 exact ⟨rfl,rfl⟩
theorem Nxt.le {t:ByteArray} {r:R2} {n:Nat} (h:Nxt t r n):3≤n∧n≤t.size:=by
 obtain ⟨m,k,hf,_,h0,_,_,rfl⟩:=h
 exact ⟨by omega,hf.2.2⟩
theorem Nxt.ok {t:ByteArray} {r:R2} {n:Nat} (h:Nxt t r n):RecOk r:=by
 obtain ⟨m,k,hf,_,h0,_,h5,rfl⟩:=h
 exact h5
inductive LogAt (t:ByteArray):Nat→List R2→Nat→Prop
 | stop {a:Nat}:a≤t.size→(∀ r n,¬ Nxt (t.extract a t.size) r n)→LogAt t a [] a
 | more {a:Nat} {r:R2} {n:Nat} {rs:List R2} {e:Nat}:a≤t.size→Nxt (t.extract a t.size) r n→LogAt t (a+n) rs e→LogAt t a (r::rs) e
theorem LogAt.only {t:ByteArray} {a:Nat} {rs:List R2} {e:Nat} (h:LogAt t a rs e):∀ {qs:List R2} {f:Nat},LogAt t a qs f→rs=qs∧e=f:=by
 induction h with
 | stop ha hn =>
  intro qs f g
  cases g with
  | stop=>exact ⟨rfl,rfl⟩
  | more _ hx _=>exact absurd hx (hn _ _)
 | more ha hx hr ih =>
  intro qs f g
  cases g with
  | stop _ hn=>exact absurd hx (hn _ _)
  | more _ gx gr =>
   obtain ⟨rfl,rfl⟩:=hx.only gx
   obtain ⟨rfl,rfl⟩:=ih gr
   exact ⟨rfl,rfl⟩
theorem LogAt.le {t:ByteArray} {a:Nat} {rs:List R2} {e:Nat} (h:LogAt t a rs e):a≤e∧e≤t.size:=by
 induction h with
 | stop ha _=>exact ⟨Nat.le_refl _,ha⟩
 | more ha hx hr ih=>exact ⟨by omega,ih.2⟩
theorem LogAt.ok {t:ByteArray} {a:Nat} {rs:List R2} {e:Nat} (h:LogAt t a rs e):∀ r ∈ rs,RecOk r:=by
 induction h with
 | stop=>intro r hr;cases hr
 | more ha hx hr ih =>
  intro r hm
  rcases List.mem_cons.1 hm with rfl | hm
  ·exact hx.ok
  ·exact ih r hm


def Aprt (u v:Value):Prop:=u.ownBlock=none∨u.ownBlock≠v.ownBlock
def EntsTo (w:World) (B k:Nat) (cs:List Value) (es:List E3):Prop:=
 (∀ t,t<k→cs[t*3]?=some (.string (es.getD t e3d).1)∧OwnE w B (cs.getD (t*3+1) undef) (cs.getD (t*3+2) undef) (es.getD t e3d)) ∧
 ∀ t t',t<k→t'<k→t≠t'→Aprt (cs.getD (t*3+1) undef) (cs.getD (t'*3+1) undef)∧Aprt (cs.getD (t*3+2) undef) (cs.getD (t'*3+2) undef)
theorem EntsTo.below {w w':World} {B k:Nat} {cs:List Value} {es:List E3} (h:EntsTo w B k cs es) (hb:Below w.heap.size w w'):EntsTo w' B k cs es:=⟨fun t ht=>⟨(h.1 t ht).1,(h.1 t ht).2.below hb⟩,h.2⟩
theorem OwnE.setP {w:World} {B P j:Nat} {vb vf:Value} {e:E3} (h:OwnE w B vb vf e) (h1:vb.ownBlock≠some P) (h2:vf.ownBlock≠some P) (u:Value):OwnE (w.setCell ⟨P,j,none⟩ u) B vb vf e:=
 ⟨ownsRow_setCell_other h.1 h1 u,ownsRow_setCell_other h.2 h2 u⟩
theorem aprt_new {w:World} {B B' e s n:Nat} {u v:Value} {xs:List Value} (hu:w.ownsRow B e s u n xs) (hv:∀ x,v.ownBlock=some x→w.heap.size≤x):Aprt u v∧Aprt v u:=by
 constructor
 ·rcases hb:u.ownBlock with _ | x
  ·exact .inl hb
  ·refine .inr ?_
   rw [hb]
   intro h
   have:=(hu.lt x hb).2
   have:=hv x h.symm
   omega
 ·rcases hb:v.ownBlock with _ | x
  ·exact .inl hb
  ·refine .inr ?_
   rw [hb]
   intro h
   have:=(hu.lt x h.symm).2
   have:=hv x hb
   omega
theorem getD_set3 {cs:List Value} {i:Nat} {a b c:Value} (h:i+2<cs.length) :
  (∀ j,j<i∨i+2<j→(((cs.set i a).set (i+1) b).set (i+2) c)[j]?=cs[j]?)∧(((cs.set i a).set (i+1) b).set (i+2) c)[i]?=some a∧(((cs.set i a).set (i+1) b).set (i+2) c)[i+1]?=some b∧(((cs.set i a).set (i+1) b).set (i+2) c)[i+2]?=some c:=by
 refine ⟨fun j hj=>?_,?_,?_,?_⟩
 ·rw [List.getElem?_set_ne (by omega),List.getElem?_set_ne (by omega),List.getElem?_set_ne (by omega)]
 ·rw [List.getElem?_set_ne (by omega),List.getElem?_set_ne (by omega),List.getElem?_set_self (by omega)]
 ·rw [List.getElem?_set_ne (by omega),List.getElem?_set_self (by simp;omega)]
 ·rw [List.getElem?_set_self (by simp;omega)]
theorem EntsTo.put {w w':World} {B P k:Nat} {cs:List Value} {es:List E3} {vb vf:Value} (h:EntsTo w B k cs es) (hb:Below w.heap.size w w') (hk:k*3+2<cs.length)
  (hn:OwnE w' w.heap.size vb vf (es.getD k e3d)) (hB:B≤w.heap.size) (hP:P<w.heap.size) (hPn:∀ t,t<k→(cs.getD (t*3+1) undef).ownBlock≠some P∧(cs.getD (t*3+2) undef).ownBlock≠some P) :
  EntsTo (((w'.setCell ⟨P,k*3,none⟩ (.string (es.getD k e3d).1)).setCell ⟨P,k*3+1,none⟩ vb).setCell ⟨P,k*3+2,none⟩ vf) B (k+1) (((cs.set (k*3) (.string (es.getD k e3d).1)).set (k*3+1) vb).set (k*3+2) vf) es:=by
 obtain ⟨g1,g2,g3,g4⟩:=getD_set3 (a:=.string (es.getD k e3d).1) (b:=vb) (c:=vf) hk
 generalize ((cs.set (k*3) (.string (es.getD k e3d).1)).set (k*3+1) vb).set (k*3+2) vf=ds at *
 have old:∀ t,t<k→ds[t*3]?=cs[t*3]?∧ds.getD (t*3+1) undef=cs.getD (t*3+1) undef∧ds.getD (t*3+2) undef=cs.getD (t*3+2) undef:=fun t ht =>
  ⟨g1 _ (by omega),by rw [List.getD,List.getD,g1 _ (by omega)],by rw [List.getD,List.getD,g1 _ (by omega)]⟩
 have nb:ds.getD (k*3+1) undef=vb:=by rw [List.getD,g3];rfl
 have nf:ds.getD (k*3+2) undef=vf:=by rw [List.getD,g4];rfl
 have lb:∀ x,vb.ownBlock=some x→w.heap.size≤x:=fun x hx=>(hn.1.lt x hx).1
 have lf:∀ x,vf.ownBlock=some x→w.heap.size≤x:=fun x hx=>(hn.2.lt x hx).1
 have pb:vb.ownBlock≠some P:=fun e=>by have:=lb P e;omega
 have pf:vf.ownBlock≠some P:=fun e=>by have:=lf P e;omega
 refine ⟨fun t ht=>?_,fun t t' ht ht' hne=>?_⟩
 ·by_cases e:t=k
  ·subst e
   rw [nb,nf]
   exact ⟨g2,(((hn.lower hB).setP pb pf _).setP pb pf _).setP pb pf _⟩
  ·obtain ⟨o1,o2,o3⟩:=old t (by omega)
   obtain ⟨h1,h2⟩:=h.1 t (by omega)
   obtain ⟨q1,q2⟩:=hPn t (by omega)
   rw [o1,o2,o3]
   exact ⟨h1,(((h2.below hb).setP q1 q2 _).setP q1 q2 _).setP q1 q2 _⟩
 ·by_cases e:t=k
  ·subst e
   obtain ⟨_,o2,o3⟩:=old t' (by omega)
   obtain ⟨_,h2⟩:=h.1 t' (by omega)
   rw [nb,nf,o2,o3]
   exact ⟨(aprt_new (B':=0) h2.1 lb).2,(aprt_new (B':=0) h2.2 lf).2⟩
  ·obtain ⟨_,o2,o3⟩:=old t (by omega)
   by_cases e':t'=k
   ·subst e'
    obtain ⟨_,h2⟩:=h.1 t (by omega)
    rw [nb,nf,o2,o3]
    exact ⟨(aprt_new (B':=0) h2.1 lb).1,(aprt_new (B':=0) h2.2 lf).1⟩
   ·obtain ⟨_,o2',o3'⟩:=old t' (by omega)
    rw [o2,o3,o2',o3']
    exact h.2 t t' (by omega) (by omega) hne

def OwnM (w:World) (B:Nat) (v:Value) (es:List E3):Prop:=∃ cs,w.ownsRow B 74 3 v es.length cs∧EntsTo w B es.length cs es
theorem OwnM.below {w w':World} {B:Nat} {v:Value} {es:List E3} (h:OwnM w B v es) (hb:Below w.heap.size w w'):OwnM w' B v es:=by
 obtain ⟨cs,h1,h2⟩:=h
 exact ⟨cs,owns8 h1 hb,h2.below hb⟩
theorem Ents.fits {w:World} {a:Option Addr} {len cap:Nat} {es:List E3} (h:Ents w a len cap es):∀ e ∈ es,e.fits:=by
 intro e he
 obtain ⟨t,ht,rfl⟩:=List.getElem_of_mem he
 obtain ⟨h1,_,_,hc⟩:=h
 rcases hc with h0 | ⟨b,off,_,_,hc⟩
 ·omega
 ·obtain ⟨s,_,_,_,hm⟩:=hc t (by omega)
  have e2:es.getD t e3d=es[t]:=by simp [List.getD,List.getElem?_eq_getElem ht]
  rw [e2] at hm
  exact hm.fits

theorem OwnE.low {w:World} {B:Nat} {vb vf:Value} {e:E3} (h:OwnE w B vb vf e) {p:Addr} (hp:p.block<B) (u:Value):OwnE (w.setCell p u) B vb vf e:=⟨ownsRow_setCell_below h.1 hp u,ownsRow_setCell_below h.2 hp u⟩
theorem OwnM.low {w:World} {B:Nat} {v:Value} {es:List E3} (h:OwnM w B v es) {p:Addr} (hp:p.block<B) (u:Value):OwnM (w.setCell p u) B v es:=by
 obtain ⟨cs,h1,h2,h3⟩:=h
 exact ⟨cs,ownsRow_setCell_below h1 hp u,fun t ht=>⟨(h2 t ht).1,(h2 t ht).2.low hp u⟩,h3⟩


def Mid9 (B T:Nat) (w w':World):Prop:=Below B w w'∧∀ j,T≤j→j<w.heap.size→w'.heap[j]?=w.heap[j]?
theorem Mid9.refl (B T:Nat) (w:World):Mid9 B T w w:=⟨Below.refl _ _,fun _ _ _=>rfl⟩
def OwnProgT (w:World) (B T:Nat) (v:Value) (rows:List (List I3)):Prop:=∃ vs,w.ownsRow B 107 1 v rows.length vs∧OwnRows w B vs rows∧∀ u ∈ vs,∀ x,u.ownBlock=some x→x<T
theorem OwnProgT.below {w w':World} {B T:Nat} {v:Value} {rows:List (List I3)} (h:OwnProgT w B T v rows) (hb:Below w.heap.size w w'):OwnProgT w' B T v rows:=by
 obtain ⟨vs,h1,h2,h3⟩:=h
 exact ⟨vs,owns_below h1 hb,h2.below hb,h3⟩


def OwnMT (w:World) (B T:Nat) (v:Value) (es:List E3):Prop:=∃ cs,w.ownsRow B 74 3 v es.length cs∧EntsTo w B es.length cs es∧(∀ x,v.ownBlock=some x→x<T)∧∀ t,t<es.length→(∀ x,(cs.getD (t*3+1) undef).ownBlock=some x→x<T)∧∀ x,(cs.getD (t*3+2) undef).ownBlock=some x→x<T
theorem OwnMT.below {w w':World} {B T:Nat} {v:Value} {es:List E3} (h:OwnMT w B T v es) (hb:Below w.heap.size w w'):OwnMT w' B T v es:=by
 obtain ⟨cs,h1,h2,h3,h4⟩:=h
 exact ⟨cs,owns8 h1 hb,h2.below hb,h3,h4⟩


theorem own_ne_blk9' {w:World} {B e s n g t:Nat} {v:Value} {xs cs:List Value} (h:w.ownsRow B e s v n xs) (hB:Blk w g t cs) (he:e≠t):v.ownBlock≠some g:=by
 rcases h.2 with ⟨rfl,_⟩ | ⟨g',cap,cur,rfl,_,hh,_⟩
 ·simp [Value.ownBlock]
 ·simp only [Value.ownBlock,ne_eq,Option.some.injEq]
  rintro rfl
  unfold Blk at hB
  rw [hh] at hB
  simp at hB
  exact he hB.2
def OwnET (w:World) (B T:Nat) (vb vf:Value) (e:E3):Prop:=OwnE w B vb vf e∧(∀ x,vb.ownBlock=some x→x<T)∧∀ x,vf.ownBlock=some x→x<T
theorem OwnET.below {w w':World} {B T:Nat} {vb vf:Value} {e:E3} (h:OwnET w B T vb vf e) (hb:Below w.heap.size w w'):OwnET w' B T vb vf e:=⟨h.1.below hb,h.2⟩


def OwnL9 (w:World) (B:Nat) (v:Value) (z:List Int):Prop:=w.ownsRow B 3 1 v z.length (z.map (Value.int .i64))
def HeldL9 (w:World) (B:Nat) (v:Value) (z:List Int):Prop:=w.ownsRow B 3 1 v z.length ((mkTo 1 z z.length).map (Value.int .i64))
theorem OwnL9.below {w w':World} {B:Nat} {v:Value} {z:List Int} (h:OwnL9 w B v z) (hb:Below w.heap.size w w'):OwnL9 w' B v z:=owns8 h hb
theorem HeldL9.below {w w':World} {B:Nat} {v:Value} {z:List Int} (h:HeldL9 w B v z) (hb:Below w.heap.size w w'):HeldL9 w' B v z:=owns8 h hb


theorem OwnM.lower {w:World} {B B':Nat} {v:Value} {es:List E3} (h:OwnM w B v es) (hB:B'≤B):OwnM w B' v es:=by
 obtain ⟨cs,h1,h2,h3⟩:=h
 exact ⟨cs,lower8 h1 hB,fun t ht=>⟨(h2 t ht).1,(h2 t ht).2.lower hB⟩,h3⟩


def OwnO (w:World) (B T:Nat) (s:Sl) (zs:List Int):Prop:=zs.length=s.2.1∧s.2.1≤s.2.2∧s.2.2≤maxLen∧(s.1=none→s.2.2=0)∧(s.2.1=0∨∃ g off cs,s.1=some ⟨g,off,none⟩∧B≤g∧g<T∧Blk w g 3 cs∧∀ t,t<s.2.1→cs[off+t]?=some (.int .i64 (zs.getD t 0)))
theorem OwnO.below {w w':World} {B T:Nat} {s:Sl} {zs:List Int} (h:OwnO w B T s zs) (hb:Below w.heap.size w w'):OwnO w' B T s zs:=by
 obtain ⟨h1,h2,h3,h4,h5⟩:=h
 refine ⟨h1,h2,h3,h4,?_⟩
 rcases h5 with h5 | ⟨g,off,cs,e,hg,ht,hB,hc⟩
 ·exact .inl h5
 ·exact .inr ⟨g,off,cs,e,hg,ht,hB.below hb,hc⟩
theorem OwnO.ints {w:World} {B T:Nat} {s:Sl} {zs:List Int} (h:OwnO w B T s zs):Ints .i64 w s.1 s.2.1 s.2.2 zs:=by
 obtain ⟨h1,h2,h3,h4,h5⟩:=h
 refine ⟨h1,h2,h3,?_⟩
 rcases h5 with h5 | ⟨g,off,cs,e,hg,ht,hB,hc⟩
 ·exact .inl h5
 ·exact .inr ⟨g,off,e,hB.lt,fun t ht=>by rw [hB.cell];exact hc t ht⟩
def OwnF (w:World) (B T:Nat) (s:Sl2) (e:E3):Prop:=w.ownsRow B 112 3 (.slice s.1.1 s.1.2.1 s.1.2.2) e.2.1.length (flat e.2.1)∧(∀ x,(Value.slice s.1.1 s.1.2.1 s.1.2.2).ownBlock=some x→x<T)∧OwnO w B T s.2 e.2.2
theorem OwnF.below {w w':World} {B T:Nat} {s:Sl2} {e:E3} (h:OwnF w B T s e) (hb:Below w.heap.size w w'):OwnF w' B T s e:=⟨owns8 h.1 hb,h.2.1,h.2.2.below hb⟩
theorem OwnF.mem {w:World} {B T:Nat} {s:Sl2} {e:E3} (h:OwnF w B T s e) (hf:e.fits):Emem w s e:=by
 obtain ⟨q1,_,q2⟩:=h
 obtain ⟨a,cap,e1,hI⟩:=Instrs.of_ownB9 q1 hf.2.1
 injection e1 with e1 e2 e3
 have hn:=own_nil0 q1
 refine ⟨⟨hf.1,?_⟩,?_,⟨q2.ints,hf.2.2⟩⟩
 ·exact ⟨hn,q2.2.2.2.1⟩
 ·rw [e1,e2,e3];exact hI

end Go.Proofs.YtdopgkbegjfhjaaGreatDoor
