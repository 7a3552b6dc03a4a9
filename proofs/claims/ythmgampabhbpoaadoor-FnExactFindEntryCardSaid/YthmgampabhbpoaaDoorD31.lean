/-
  Joined: EntP, RwI.
-/
import Derived.Test.YthmgampabhbpoaaDoorD24
import Derived.Test.YthmgampabhbpoaaDoorD25
import Derived.Test.YthmgampabhbpoaaDoorD29

namespace Go.Proofs.YthmgampabhbpoaaDoor
set_option maxRecDepth 100000
set_option maxHeartbeats 16000000
open Go.RowKit
set_option linter.unusedVariables false
set_option linter.unusedSimpArgs false

theorem allR_false {f:Nat→Bool} {n k:Nat} (hk:k<n) (h:f k=false):(List.range n).all f=false:=by
 rw [List.all_eq_false]
 exact ⟨k,List.mem_range.2 hk,by rw [h];simp⟩
theorem allR_true {f:Nat→Bool} {n:Nat} (h:∀ k,k<n→f k=true):(List.range n).all f=true:=by
 rw [List.all_eq_true]
 exact fun k hk=>h k (List.mem_range.1 hk)
theorem allR_at {f:Nat→Bool} {n k:Nat} (h:(List.range n).all f=true) (hk:k<n):f k=true:=List.all_eq_true.1 h k (List.mem_range.2 hk)

def bStep (xs:List I3) (i:Nat):Bool:=okB (xs.getD i (0,0,0)) && (decide (i=0) || ltB (xs.getD (i - 1) (0,0,0)) (xs.getD i (0,0,0)))
def riseB (xs:List I3):Bool:=(List.range xs.length).all (bStep xs)
def iStep (zs:List Int) (i:Nat):Bool:=itOk (zs.getD i 0) && (decide (i=0) || decide (zs.getD (i - 1) 0<zs.getD i 0))
def riseI (zs:List Int):Bool:=(List.range zs.length).all (iStep zs)
def keyOk9 (k:ByteArray):Bool:=decide (k.size=15) && shapeOk (bytesV k)
def entOk (e:E3):Bool:=keyOk9 e.1 && (riseB e.2.1 && (riseI e.2.2 && decide (e.2.1.length≤30)))
def mStep (es:List E3) (i:Nat):Bool:=entOk (es.getD i e3d) && (decide (i=0) || ltS (es.getD (i - 1) e3d).1 (es.getD i e3d).1)
def memOk (es:List E3):Bool:=(List.range es.length).all (mStep es) && decide (es.length≤2000)

theorem memOk_len {es:List E3} (h:memOk es=true):es.length≤2000:=by
 simp only [memOk,Bool.and_eq_true,decide_eq_true_eq] at h
 exact h.2
theorem memOk_ent {es:List E3} (h:memOk es=true) {i:Nat} (hi:i<es.length):entOk (es.getD i e3d)=true:=by
 simp only [memOk,Bool.and_eq_true,decide_eq_true_eq] at h
 have:=allR_at h.1 hi
 simp only [mStep,Bool.and_eq_true] at this
 exact this.1
theorem memOk_next {es:List E3} (h:memOk es=true) {i:Nat} (hi:i+1<es.length):ltS (es.getD i e3d).1 (es.getD (i+1) e3d).1=true:=by
 simp only [memOk,Bool.and_eq_true,decide_eq_true_eq] at h
 have:=allR_at h.1 hi
 simp only [mStep,Bool.and_eq_true,Bool.or_eq_true,decide_eq_true_eq] at this
 rcases this.2 with h0 | h1
 ·omega
 ·simpa using h1
theorem memOk_lt {es:List E3} (h:memOk es=true):∀ {j i:Nat},i<j→j<es.length→ltS (es.getD i e3d).1 (es.getD j e3d).1=true
 | 0,i,hi,_=>by omega
 | j+1,i,hi,hj=>by
  have hn:=memOk_next h (i:=j) hj
  by_cases e:i=j
  ·rw [e];exact hn
  ·exact ltS_trans (memOk_lt h (j:=j) (i:=i) (by omega) (by omega)) hn

def plcE (es:List E3) (k:ByteArray):Nat:=(es.takeWhile fun e=>ltS e.1 k).length
theorem plcE_le (es:List E3) (k:ByteArray):plcE es k≤es.length:=by
 unfold plcE
 exact (List.takeWhile_prefix _).length_le
theorem takeW_at {α:Type} {p:α→Bool} {d:α}:∀ {l:List α} {i:Nat},i<(l.takeWhile p).length→p (l.getD i d)=true
 | [],i,h=>by simp at h
 | x::l,i,h=>by
  by_cases hx:p x=true
  ·rw [List.takeWhile_cons_of_pos hx] at h
   cases i with
   | zero=>simpa using hx
   | succ i=>simpa using takeW_at (l:=l) (i:=i) (by simpa using h)
  ·rw [List.takeWhile_cons_of_neg hx] at h
   simp at h
theorem takeW_stop {α:Type} {p:α→Bool} {d:α}:∀ {l:List α},(l.takeWhile p).length<l.length→p (l.getD (l.takeWhile p).length d)=false
 | [],h=>by simp at h
 | x::l,h=>by
  by_cases hx:p x=true
  ·rw [List.takeWhile_cons_of_pos hx] at h ⊢
   simpa using takeW_stop (l:=l) (by simpa using h)
  ·rw [List.takeWhile_cons_of_neg hx]
   simpa using hx
theorem plcE_ahead {es:List E3} {k:ByteArray} {i:Nat} (h:i<plcE es k):ltS (es.getD i e3d).1 k=true:=takeW_at (p:=fun e:E3=>ltS e.1 k) (d:=e3d) h
theorem plcE_stop {es:List E3} {k:ByteArray} (h:plcE es k<es.length):ltS (es.getD (plcE es k) e3d).1 k=false:=takeW_stop (p:=fun e:E3=>ltS e.1 k) (d:=e3d) h
theorem plcE_of {es:List E3} {k:ByteArray} {n:Nat} (h1:∀ i,i<n→ltS (es.getD i e3d).1 k=true) (hn:n≤es.length) (h2:n<es.length→ltS (es.getD n e3d).1 k=false):plcE es k=n:=by
 by_cases hlt:plcE es k<n
 ·have a:=plcE_stop (k:=k) (show plcE es k<es.length by omega)
  rw [h1 _ hlt] at a
  cases a
 ·by_cases hgt:n<plcE es k
  ·have a:=plcE_ahead hgt
   have b:=h2 (by have:=plcE_le es k;omega)
   rw [a] at b
   cases b
  ·omega
def isE (es:List E3) (k:ByteArray):Bool:=decide (plcE es k<es.length) && decide ((es.getD (plcE es k) e3d).1=k)


def IsL (w:World) (v:Value) (xs:List Int):Prop:=∃ la ln lc,v=.slice la ln lc∧Ints .i64 w la ln lc xs
theorem IsL.below {w w':World} {v:Value} {xs:List Int} (h:IsL w v xs) (hb:Below w.heap.size w w'):IsL w' v xs:=by
 obtain ⟨la,ln,lc,rfl,hi⟩:=h
 exact ⟨la,ln,lc,rfl,hi.below hb⟩
def AllL (w:World) (vs:List Value) (xss:List (List Int)):Prop:=vs.length=xss.length∧∀ t,t<xss.length→IsL w (vs.getD t undef) (xss.getD t [])
theorem AllL.below {w w':World} {vs:List Value} {xss:List (List Int)} (h:AllL w vs xss) (hb:Below w.heap.size w w'):AllL w' vs xss:=⟨h.1,fun t ht=>(h.2 t ht).below hb⟩
def RowsI (w:World) (a:Option Addr) (n c:Nat) (xss:List (List Int)):Prop:=
 xss.length=n∧n≤c∧c≤maxLen∧∃ vs,AllL w vs xss∧(n=0∨∃ b off,a=some ⟨b,off,none⟩∧b<w.heap.size∧∀ t,t<n→w.cell? ⟨b,off+t,none⟩=some (vs.getD t undef))
theorem RowsI.below {w w':World} {a:Option Addr} {n c:Nat} {xss:List (List Int)} (h:RowsI w a n c xss) (hb:Below w.heap.size w w'):RowsI w' a n c xss:=by
 obtain ⟨h1,h2,h3,vs,h4,h5⟩:=h
 refine ⟨h1,h2,h3,vs,h4.below hb,?_⟩
 rcases h5 with h5 | ⟨b,off,h6,h7,h8⟩
 ·exact .inl h5
 ·exact .inr ⟨b,off,h6,Nat.lt_of_lt_of_le h7 hb.size,fun t ht=>by rw [hb.cell (p:=⟨b,off+t,none⟩) h7];exact h8 t ht⟩
theorem RowsI.cell {w:World} {a:Option Addr} {n c:Nat} {xss:List (List Int)} (h:RowsI w a n c xss) {t:Nat} (ht:t<n):∃ b off la ln lc,a=some ⟨b,off,none⟩∧w.cell? ⟨b,off+t,none⟩=some (.slice la ln lc)∧Ints .i64 w la ln lc (xss.getD t []):=by
 obtain ⟨h1,h2,h3,vs,h4,h5⟩:=h
 rcases h5 with h5 | ⟨b,off,h6,h7,h8⟩
 ·omega
 ·obtain ⟨la,ln,lc,e,hi⟩:=h4.2 t (by omega)
  exact ⟨b,off,la,ln,lc,h6,by rw [h8 t ht,e],hi⟩
end Go.Proofs.YthmgampabhbpoaaDoor
