/-
  Joined: Ent5, EntP.
-/
import Derived.Test.YthmgampabhbpoaaDoorB15
import Derived.Test.YthmgampabhbpoaaDoorB19
import Derived.Test.YthmgampabhbpoaaDoorB26
import Derived.Test.YthmgampabhbpoaaDoorB28
import Derived.Test.YthmgampabhbpoaaDoorB29

namespace Go.Proofs.YthmgampabhbpoaaDoor
set_option maxRecDepth 100000
set_option maxHeartbeats 16000000
open Go.RowKit
set_option linter.unusedVariables false
set_option linter.unusedSimpArgs false

def cntE (e:E3):Nat:=1+e.2.1.length*3+e.2.2.length
def mkE (k:Nat) (e:E3):E3:=(markB k,mkI ((k:Int)+1) e.2.1 e.2.1.length,mkTo ((k:Int)+1+e.2.1.length*3) e.2.2 e.2.2.length)
def mkM:Nat→List E3→Nat→List E3
 | _,es,0=>es
 | _,[],_+1=>[]
 | k,e::es,j+1=>mkE k e::mkM (k+cntE e) es j
theorem mkM_len:∀ (k:Nat) (es:List E3) (j:Nat),(mkM k es j).length=es.length
 | _,es,0=>by simp [mkM]
 | _,[],_+1=>by simp [mkM]
 | k,_::es,j+1=>by simp [mkM,mkM_len]
def cntM:List E3→Nat→Nat
 | _,0=>0
 | [],_+1=>0
 | e::es,j+1=>cntE e+cntM es j
theorem cntM_step:∀ (es:List E3) (j:Nat),j<es.length→cntM es (j+1)=cntM es j+cntE (es.getD j e3d)
 | [],j,h=>by simp at h
 | e::es,0,_=>by simp [cntM]
 | e::es,j+1,h=>by
  have:=cntM_step es j (by simpa using h)
  simp only [cntM] at this ⊢
  rw [List.getD_cons_succ]
  omega
theorem cntM_mono:∀ (es:List E3) (j:Nat),cntM es j≤cntM es es.length
 | [],0=>by simp [cntM]
 | [],_+1=>by simp [cntM]
 | e::es,0=>by simp [cntM]
 | e::es,j+1=>by
  have:=cntM_mono es j
  simp only [cntM,List.length_cons]
  omega
theorem cntM_cost:∀ (es:List E3),cntM es es.length≤3*(es.length+costT es)
 | []=>by simp [cntM]
 | e::es=>by
  have:=cntM_cost es
  simp only [cntM,List.length_cons,costT,List.map_cons,List.sum_cons,cntE,costE] at *
  omega
theorem mkM_set:∀ (k:Nat) (es:List E3) (j:Nat),j<es.length→(mkM k es j).set j (mkE (k+cntM es j) (es.getD j e3d))=mkM k es (j+1)
 | _,[],j,h=>by simp at h
 | k,e::es,0,_=>by simp [mkM,cntM]
 | k,e::es,j+1,h=>by
  have ih:=mkM_set (k+cntE e) es j (by simpa using h)
  have e9:k+cntM (e::es) (j+1)=k+cntE e+cntM es j:=by simp only [cntM];omega
  rw [e9,List.getD_cons_succ]
  simp only [mkM,List.set_cons_succ,ih]
theorem mkM_old:∀ (k:Nat) (es:List E3) (j i:Nat),j≤i→i<es.length→(mkM k es j).getD i e3d=es.getD i e3d
 | _,es,0,i,_,_=>by simp [mkM]
 | _,[],j+1,i,_,h=>by simp at h
 | k,e::es,j+1,i,h,hl=>by
  cases i with
  | zero=>omega
  | succ i =>
   have ih:=mkM_old (k+cntE e) es j i (by omega) (by simpa using hl)
   simpa [mkM] using ih
def OwnMT (w:World) (B T:Nat) (v:Value) (es:List E3):Prop:=∃ cs,w.ownsRow B 30 3 v es.length cs∧EntsTo w B es.length cs es∧(∀ x,v.ownBlock=some x→x<T)∧∀ t,t<es.length→(∀ x,(cs.getD (t*3+1) undef).ownBlock=some x→x<T)∧∀ x,(cs.getD (t*3+2) undef).ownBlock=some x→x<T
theorem OwnMT.own {w:World} {B T:Nat} {v:Value} {es:List E3} (h:OwnMT w B T v es):OwnM w B v es:=by
 obtain ⟨cs,h1,h2,_⟩:=h
 exact ⟨cs,h1,h2⟩
theorem OwnMT.below {w w':World} {B T:Nat} {v:Value} {es:List E3} (h:OwnMT w B T v es) (hb:Below w.heap.size w w'):OwnMT w' B T v es:=by
 obtain ⟨cs,h1,h2,h3,h4⟩:=h
 exact ⟨cs,owns8 h1 hb,h2.below hb,h3,h4⟩
theorem OwnM.top9 {w:World} {B:Nat} {v:Value} {es:List E3} (h:OwnM w B v es):OwnMT w B w.heap.size v es:=by
 obtain ⟨cs,h1,h2⟩:=h
 exact ⟨cs,h1,h2,fun x hx=>(h1.lt x hx).2,fun t ht=>⟨fun x hx=>((h2.1 t ht).2.1.lt x hx).2,fun x hx=>((h2.1 t ht).2.2.lt x hx).2⟩⟩
theorem OwnMT.mid {B T B' T':Nat} {w w':World} {v:Value} {es:List E3} (h:OwnMT w B' T' v es) (hm:Mid9 B T w w') (hT:T≤B'):OwnMT w' B' T' v es:=by
 obtain ⟨cs,h1,h2,h3,h4⟩:=h
 exact ⟨cs,hm.owns h1 hT,⟨fun t ht=>⟨(h2.1 t ht).1,hm.owns (h2.1 t ht).2.1 hT,hm.owns (h2.1 t ht).2.2 hT⟩,h2.2⟩,h3,h4⟩
theorem getD_setE {L:List E3} {j t:Nat} {x:E3} (hj:j<L.length):(L.set j x).getD t e3d=if t=j then x else L.getD t e3d:=by
 by_cases e:t=j
 ·subst e;simp [List.getD,hj]
 ·rw [if_neg e];simp [List.getD,List.getElem?_set_ne (Ne.symm e)]

theorem EntsTo.key {w:World} {B P j:Nat} {cs:List Value} {L:List E3} {s:ByteArray} (h:EntsTo w B L.length cs L) (hj:j<L.length) (hc:j*3+2<cs.length) (hP:∀ t,t<L.length→(cs.getD (t*3+1) undef).ownBlock≠some P∧(cs.getD (t*3+2) undef).ownBlock≠some P) :
  EntsTo (w.setCell ⟨P,j*3,none⟩ (.string s)) B (L.set j (s,(L.getD j e3d).2)).length (cs.set (j*3) (.string s)) (L.set j (s,(L.getD j e3d).2)):=by
 rw [List.length_set]
 have o:∀ i,i≠j*3→(cs.set (j*3) (.string s))[i]?=cs[i]?:=fun i hi=>List.getElem?_set_ne (Ne.symm hi)
 have o1:∀ t,(cs.set (j*3) (.string s)).getD (t*3+1) undef=cs.getD (t*3+1) undef:=fun t=>by rw [List.getD,List.getD,o _ (by omega)]
 have o2:∀ t,(cs.set (j*3) (.string s)).getD (t*3+2) undef=cs.getD (t*3+2) undef:=fun t=>by rw [List.getD,List.getD,o _ (by omega)]
 refine ⟨fun t ht=>?_,fun t t' ht ht' hne=>by rw [o1,o1,o2,o2];exact h.2 t t' ht ht' hne⟩
 rw [o1,o2,getD_setE hj]
 obtain ⟨q1,q2⟩:=hP t ht
 have h2:=(h.1 t ht).2.setP (j:=j*3) q1 q2 (.string s)
 by_cases e:t=j
 ·subst e
  rw [if_pos rfl]
  exact ⟨by rw [List.getElem?_set_self (by omega)],h2⟩
 ·rw [if_neg e,o _ (by omega)]
  exact ⟨(h.1 t ht).1,h2⟩
theorem EntsTo.bugs {w w':World} {B j:Nat} {cs:List Value} {L:List E3} {bs:List I3} (h:EntsTo w B L.length cs L) (hj:j<L.length) (hl:bs.length=(L.getD j e3d).2.1.length)
  (hr:w'.ownsRow B 108 3 (cs.getD (j*3+1) undef) bs.length (flat bs)) (hg:w.grownBy w' (cs.getD (j*3+1) undef).ownBlock) :
  EntsTo w' B (L.set j ((L.getD j e3d).1,bs,(L.getD j e3d).2.2)).length cs (L.set j ((L.getD j e3d).1,bs,(L.getD j e3d).2.2)):=by
 rw [List.length_set]
 have hb:=(h.1 j hj).2.1
 refine ⟨fun t ht=>?_,h.2⟩
 rw [getD_setE hj]
 obtain ⟨k1,k2,k3⟩:=h.1 t ht
 have k3':=k3.kept hg (owns_ne k3 hb (by decide))
 by_cases e:t=j
 ·subst e
  rw [if_pos rfl]
  exact ⟨k1,hr,k3'⟩
 ·rw [if_neg e]
  exact ⟨k1,k2.kept hg ((h.2 t j ht hj e).1),k3'⟩
theorem EntsTo.foot {w w':World} {B j:Nat} {cs:List Value} {L:List E3} {zs:List Int} (h:EntsTo w B L.length cs L) (hj:j<L.length)
  (hr:w'.ownsRow B 3 1 (cs.getD (j*3+2) undef) zs.length (zs.map (Value.int .i64))) (hg:w.grownBy w' (cs.getD (j*3+2) undef).ownBlock) :
  EntsTo w' B (L.set j ((L.getD j e3d).1,(L.getD j e3d).2.1,zs)).length cs (L.set j ((L.getD j e3d).1,(L.getD j e3d).2.1,zs)):=by
 rw [List.length_set]
 have hb:=(h.1 j hj).2.2
 refine ⟨fun t ht=>?_,h.2⟩
 rw [getD_setE hj]
 obtain ⟨k1,k2,k3⟩:=h.1 t ht
 have k2':=k2.kept hg (owns_ne k2 hb (by decide))
 by_cases e:t=j
 ·subst e
  rw [if_pos rfl]
  exact ⟨k1,k2',hr⟩
 ·rw [if_neg e]
  exact ⟨k1,k2',k3.kept hg ((h.2 t j ht hj e).2)⟩


theorem allR_false {f:Nat→Bool} {n k:Nat} (hk:k<n) (h:f k=false):(List.range n).all f=false:=by
 rw [List.all_eq_false]
 exact ⟨k,List.mem_range.2 hk,by rw [h];simp⟩
theorem allR_true {f:Nat→Bool} {n:Nat} (h:∀ k,k<n→f k=true):(List.range n).all f=true:=by
 rw [List.all_eq_true]
 exact fun k hk=>h k (List.mem_range.1 hk)
theorem allR_at {f:Nat→Bool} {n k:Nat} (h:(List.range n).all f=true) (hk:k<n):f k=true:=List.all_eq_true.1 h k (List.mem_range.2 hk)

def bStep (xs:List I3) (i:Nat):Bool:=okB (xs.getD i (0,0,0)) && (decide (i=0) || ltB (xs.getD (i - 1) (0,0,0)) (xs.getD i (0,0,0)))
def riseB (xs:List I3):Bool:=(List.range xs.length).all (bStep xs)
def iStep (zs:List Int) (i:Nat):Bool:=itOk (zs.getD i 0) && (decide (i=0) || decide (zs.getD (i - 1) 0<zs.getD i 0))
def riseI (zs:List Int):Bool:=(List.range zs.length).all (iStep zs)
def keyOk9 (k:ByteArray):Bool:=decide (k.size=15) && shapeOk (bytesV k)
def entOk (e:E3):Bool:=keyOk9 e.1 && (riseB e.2.1 && (riseI e.2.2 && decide (e.2.1.length≤30)))
def mStep (es:List E3) (i:Nat):Bool:=entOk (es.getD i e3d) && (decide (i=0) || ltS (es.getD (i - 1) e3d).1 (es.getD i e3d).1)
def memOk (es:List E3):Bool:=(List.range es.length).all (mStep es) && decide (es.length≤2000)

theorem memOk_len {es:List E3} (h:memOk es=true):es.length≤2000:=by
 simp only [memOk,Bool.and_eq_true,decide_eq_true_eq] at h
 exact h.2
theorem memOk_ent {es:List E3} (h:memOk es=true) {i:Nat} (hi:i<es.length):entOk (es.getD i e3d)=true:=by
 simp only [memOk,Bool.and_eq_true,decide_eq_true_eq] at h
 have:=allR_at h.1 hi
 simp only [mStep,Bool.and_eq_true] at this
 exact this.1
theorem memOk_next {es:List E3} (h:memOk es=true) {i:Nat} (hi:i+1<es.length):ltS (es.getD i e3d).1 (es.getD (i+1) e3d).1=true:=by
 simp only [memOk,Bool.and_eq_true,decide_eq_true_eq] at h
 have:=allR_at h.1 hi
 simp only [mStep,Bool.and_eq_true,Bool.or_eq_true,decide_eq_true_eq] at this
 rcases this.2 with h0 | h1
 ·omega
 ·simpa using h1
theorem memOk_lt {es:List E3} (h:memOk es=true):∀ {j i:Nat},i<j→j<es.length→ltS (es.getD i e3d).1 (es.getD j e3d).1=true
 | 0,i,hi,_=>by omega
 | j+1,i,hi,hj=>by
  have hn:=memOk_next h (i:=j) hj
  by_cases e:i=j
  ·rw [e];exact hn
  ·exact ltS_trans (memOk_lt h (j:=j) (i:=i) (by omega) (by omega)) hn

def plcE (es:List E3) (k:ByteArray):Nat:=(es.takeWhile fun e=>ltS e.1 k).length
theorem plcE_le (es:List E3) (k:ByteArray):plcE es k≤es.length:=by
 unfold plcE
 exact (List.takeWhile_prefix _).length_le
theorem takeW_at {α:Type} {p:α→Bool} {d:α}:∀ {l:List α} {i:Nat},i<(l.takeWhile p).length→p (l.getD i d)=true
 | [],i,h=>by simp at h
 | x::l,i,h=>by
  by_cases hx:p x=true
  ·rw [List.takeWhile_cons_of_pos hx] at h
   cases i with
   | zero=>simpa using hx
   | succ i=>simpa using takeW_at (l:=l) (i:=i) (by simpa using h)
  ·rw [List.takeWhile_cons_of_neg hx] at h
   simp at h
theorem takeW_stop {α:Type} {p:α→Bool} {d:α}:∀ {l:List α},(l.takeWhile p).length<l.length→p (l.getD (l.takeWhile p).length d)=false
 | [],h=>by simp at h
 | x::l,h=>by
  by_cases hx:p x=true
  ·rw [List.takeWhile_cons_of_pos hx] at h ⊢
   simpa using takeW_stop (l:=l) (by simpa using h)
  ·rw [List.takeWhile_cons_of_neg hx]
   simpa using hx
theorem plcE_ahead {es:List E3} {k:ByteArray} {i:Nat} (h:i<plcE es k):ltS (es.getD i e3d).1 k=true:=takeW_at (p:=fun e:E3=>ltS e.1 k) (d:=e3d) h
theorem plcE_stop {es:List E3} {k:ByteArray} (h:plcE es k<es.length):ltS (es.getD (plcE es k) e3d).1 k=false:=takeW_stop (p:=fun e:E3=>ltS e.1 k) (d:=e3d) h
theorem plcE_of {es:List E3} {k:ByteArray} {n:Nat} (h1:∀ i,i<n→ltS (es.getD i e3d).1 k=true) (hn:n≤es.length) (h2:n<es.length→ltS (es.getD n e3d).1 k=false):plcE es k=n:=by
 by_cases hlt:plcE es k<n
 ·have a:=plcE_stop (k:=k) (show plcE es k<es.length by omega)
  rw [h1 _ hlt] at a
  cases a
 ·by_cases hgt:n<plcE es k
  ·have a:=plcE_ahead hgt
   have b:=h2 (by have:=plcE_le es k;omega)
   rw [a] at b
   cases b
  ·omega
def isE (es:List E3) (k:ByteArray):Bool:=decide (plcE es k<es.length) && decide ((es.getD (plcE es k) e3d).1=k)
end Go.Proofs.YthmgampabhbpoaaDoor
