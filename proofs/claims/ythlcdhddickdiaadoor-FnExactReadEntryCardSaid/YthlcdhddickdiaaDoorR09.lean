/-
  Joined: Parts, Vm4, Mach0, Kit8.
-/
import Derived.Deep.RegionLaw
import Derived.Laws.OwnMore
import Derived.Laws.BytesArg
import Derived.Maps.AppendAt
import Derived.Lib.Hide
import Derived.Test.YthlcdhddickdiaaDoorR05
import Derived.Test.YthlcdhddickdiaaDoorR08

namespace Go.Proofs.YthlcdhddickdiaaDoor
set_option maxRecDepth 100000
set_option maxHeartbeats 16000000
open Go.RowKit

theorem step_append_mine {P:Program} {ops:Array Oper} {o:Oper} {a:Act} {w:World} {K:Act→World→Prop} {Q:Exit→Act→World→Prop} {E:Prop}
  (hg:o.guard=none) (s x:Operand) (t:TypeId) (hop:o.op=Op.call { callee:=Callee.builtin Builtin.append,args:=#[s,x],argTypes:=#[t,t] })
  (base:Nat) (e:TypeId) (i:TypeInfo) (z:Value) (size bytes:Nat) (h1:P.underlying t=some (.slice e)) (h2:P.info? e=some i) (h3:i.zero=some z) (h4:i.size=size) (h5:i.bytes=bytes) (h6:z.cells.size=size) (h7:0<size)
  (v:Value) (n:Nat) (olds:List Value) (hs:a.eval s=v) (hown:w.ownsRow base e size v n olds)
  (ad:Addr) (m c:Nat) (news:List Value) (hx:a.eval x=.slice (some ad) m c) (hn:news.length=m*size) (hc:∀ j u,news[j]?=some u→w.cell? (ad.add j)=some u) (h1c:∀ u ∈ news,u.oneCell'=true)
  (b1:n+m≤maxLen) (b2:(n+m)*bytes≤140737488355328) (hbw:base≤w.heap.size)
  (hK:∀ v' w',w'.ownsRow base e size v' (n+m) (olds++news)→w.grownBy w' v.ownBlock→K (a.put o.dst v') w') :
  if Region.wanted o (yielded ops a.tmps)=true then Oper.wp P o a w K Q else E:=by
 have hw:Region.wanted o (yielded ops a.tmps)=true:=by simp [Region.wanted,hg]
 rw [if_pos hw]
 obtain ⟨v',w',hrun,r1,r2,_⟩:=run_append_own (P:=P) w base t o.type e i z size bytes h1 h2 h3 h4 h5 h6 h7 v n olds hown ad m c news hn hc h1c b1 b2 hbw
 subst hs
 unfold Oper.wp
 simp [execOp,hop,resolve,invoke,builtin,hx,hrun,Result.andThen]
 exact hK v' w' r1 r2
theorem three_i64 (a b c:Int):∀ u ∈ [Value.int .i64 a,.int .i64 b,.int .i64 c],u.oneCell'=true:=by intro u hu;simp at hu;rcases hu with rfl | rfl | rfl<;>rfl
theorem cell_three_new (w:World) (x y z:Value) (t:TypeId):∀ j u,[x,y,z][j]?=some u→(w.alloc (.cells #[x,y,z] t)).cell? ((⟨w.heap.size,0,none⟩:Addr).add j)=some u:=by
 intro j u hj
 match j,hj with
 | 0,hj=>simp at hj;subst hj;simp [Addr.add]
 | 1,hj=>simp at hj;subst hj;simp [Addr.add]
 | 2,hj=>simp at hj;subst hj;simp [Addr.add]
 | (j+3),hj=>simp at hj


def allOf (m:V4):List Int:=((m.1++m.2.1)++m.2.2.1)++m.2.2.2
theorem allIn_parts {zs:List Int} {n high:Int} (h:allIn zs n high=true):(zs.length:Int)=n∧∀ z ∈ zs,0≤z∧z≤high:=by
 unfold allIn at h
 simp at h
 exact ⟨h.2,h.1⟩
theorem shape_parts {m:V4} (h:shapeOk m=true):m.1.length=3∧m.2.1.length=4∧m.2.2.1.length=2∧m.2.2.2.length=6∧∀ z ∈ allOf m,0≤z∧z≤9:=by
 unfold shapeOk at h
 simp only [Bool.and_eq_true] at h
 obtain ⟨h0,h1,h2,h3⟩:=h
 obtain ⟨l0,e0⟩:=allIn_parts h0
 obtain ⟨l1,e1⟩:=allIn_parts h1
 obtain ⟨l2,e2⟩:=allIn_parts h2
 obtain ⟨l3,e3⟩:=allIn_parts h3
 refine ⟨by omega,by omega,by omega,by omega,fun z hz=>?_⟩
 unfold allOf at hz
 simp only [List.mem_append] at hz
 rcases hz with ((hz | hz) | hz) | hz
 ·have:=e0 z hz;omega
 ·exact e1 z hz
 ·have:=e2 z hz;omega
 ·exact e3 z hz


section
variable (c0 c1 c2 : Value) (m : V4)
end

section
variable (c0 c1 c2 : Value) (m : V4) (h : shapeOk m = true)
include h
end

def Blk (w:World) (g:Nat) (t:TypeId) (cs:List Value):Prop:=w.heap[g]?=some (.cells cs.toArray t (0,0))
theorem Blk.lt {w:World} {g t:Nat} {cs:List Value} (h:Blk w g t cs):g<w.heap.size:=(Array.getElem?_eq_some_iff.1 h).1
theorem Blk.cell {w:World} {g t:Nat} {cs:List Value} (h:Blk w g t cs) (i:Nat):w.cell? ⟨g,i,none⟩=cs[i]?:=by
 unfold Blk at h
 simp [World.cell?,h]
theorem Blk.frozen {w:World} {g t:Nat} {cs:List Value} (h:Blk w g t cs) (i:Nat):w.frozen? ⟨g,i,none⟩=false:=by
 unfold Blk at h
 simp [World.frozen?,h]
theorem Blk.set {w:World} {g t:Nat} {cs:List Value} (h:Blk w g t cs) (i:Nat) (v:Value):Blk (w.setCell ⟨g,i,none⟩ v) g t (cs.set i v):=by
 have hl:=h.lt
 unfold Blk at h ⊢
 simp [World.setCell,Array.getElem?_modify,h]
theorem Blk.below {w w':World} {g t:Nat} {cs:List Value} (h:Blk w g t cs) (hb:Below w.heap.size w w'):Blk w' g t cs:=(hb.block g h.lt).trans h
theorem Blk.belowB {w w':World} {g t B:Nat} {cs:List Value} (h:Blk w g t cs) (hb:Below B w w') (hg:g<B):Blk w' g t cs:=(hb.block g hg).trans h
theorem Blk.new (w:World) (t:Nat) (cs:List Value):Blk (w.alloc (.cells cs.toArray t)) w.heap.size t cs:=by
 show (w.heap.push _)[w.heap.size]?=_
 simp
theorem Blk.drew {w:World} {g t:Nat} {cs:List Value} (h:Blk w g t cs):Blk w.drew g t cs:=h
theorem Blk.drewN {w:World} {g t:Nat} {cs:List Value} (h:Blk w g t cs) (d:Nat):Blk (w.drewN d) g t cs:=h
theorem Blk.off {w:World} {g t:Nat} {cs:List Value} (h:Blk w g t cs) (p:Addr) (v:Value) (hp:g≠p.block):Blk (w.setCell p v) g t cs:=(Below.heap_setCell w p v g hp).trans h

set_option linter.unusedVariables false

theorem bel8 {a b c:World} (h:Below a.heap.size a b) (k:Below b.heap.size b c):Below a.heap.size a c:=h.trans (k.mono h.size)
theorem owns8 {B e k n:Nat} {v:Value} {xs:List Value} {w w':World} (h:w.ownsRow B e k v n xs) (hb:Below w.heap.size w w'):w'.ownsRow B e k v n xs:=
 h.kept (row:=none) ⟨hb.os,hb.tape,hb.output,hb.size,fun i hi _=>hb.block i hi⟩ (by cases v.ownBlock<;>simp)
theorem cell8 {w w':World} (h:Below w.heap.size w w') {p:Addr} {v:Value} (hv:w.cell? p=some v):w'.cell? p=some v:=by
 rw [h.cell (World.block_lt_of_cell? _ _ hv)]
 exact hv
theorem lower8 {w:World} {B B' e s n:Nat} {v:Value} {cs:List Value} (h:w.ownsRow B e s v n cs) (hB:B'≤B):w.ownsRow B' e s v n cs:=by
 refine ⟨h.1,?_⟩
 rcases h.2 with h0 | ⟨g,cap,cur,hv,hg,rest⟩
 ·exact .inl h0
 ·exact .inr ⟨g,cap,cur,hv,by omega,rest⟩
theorem slice8 {w:World} {B e s n:Nat} {v:Value} {cs:List Value} (h:w.ownsRow B e s v n cs):∃ a c,v=.slice a n c:=by
 rcases h.2 with ⟨rfl,h0⟩ | ⟨g,cap,cur,hv,_⟩
 ·subst h0;exact ⟨none,0,rfl⟩
 ·exact ⟨some ⟨g,0,none⟩,cap,hv⟩
theorem empty8 (w:World) (t s B:Nat) (hB:B≤w.heap.size):(w.alloc (.cells #[] t)).ownsRow B t s (.slice (some ⟨w.heap.size,0,none⟩) 0 0) 0 []:=World.ownsRow_lit w #[] 0 hB (by unfold maxLen;omega) (by simp)
theorem ints8 {w:World} {B n c:Nat} {a:Option Addr} {xs:List Int} (h:w.ownsRow B 3 1 (.slice a n c) n (xs.map (Value.int .i64))):Ints .i64 w a n c xs:=by
 rcases h.2 with ⟨e,h0⟩ | ⟨b,cc,cur,e,h1,h2,h3,h4⟩
 ·cases e
  have hl:=h.1
  exact ⟨by simpa using hl,Nat.le_refl _,by unfold maxLen;omega,.inl rfl⟩
 ·cases e
  exact Ints.of_owns h
theorem news8 {w:World} {b off n c:Nat} {xs:List Int} (h:Ints .i64 w (some ⟨b,off,none⟩) n c xs):∀ j u,(xs.map (Value.int .i64))[j]?=some u→w.cell? ((⟨b,off,none⟩:Addr).add j)=some u:=by
 intro j u hj
 obtain ⟨hl,_,_,hcase⟩:=h
 have hjl:j<xs.length:=by simpa using (List.getElem?_eq_some_iff.1 hj).1
 rcases hcase with h0 | ⟨b',off',he,hb,hc⟩
 ·omega
 ·cases he
  have:=hc j (by omega)
  have e:(⟨b,off,none⟩:Addr).add j=⟨b,off+j,none⟩:=by unfold Addr.add;split<;>simp_all
  rw [e,this]
  simp [List.getElem?_eq_getElem hjl] at hj
  simp [List.getD,List.getElem?_eq_getElem hjl,hj]
theorem one8 (xs:List Int):∀ u ∈ xs.map (Value.int .i64),u.oneCell'=true:=by
 intro u hu
 obtain ⟨x,_,rfl⟩:=List.mem_map.1 hu
 rfl
end Go.Proofs.YthlcdhddickdiaaDoor
