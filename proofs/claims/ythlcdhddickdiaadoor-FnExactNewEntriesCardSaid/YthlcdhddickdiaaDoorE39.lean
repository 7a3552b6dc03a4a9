/-
  Joined: TchI, KpsI, EntS, InsK.
-/
import Derived.Lib.Strings
import Derived.Lib.Walk
import Derived.Lib.BufferWrite
import Derived.Lib.UnsafeStr
import Derived.Laws.MakeOwn
import Derived.Shelf.SlSortCmp.Insertion
import Derived.Shelf.Small.Strs
import Derived.Deep.Cut
import Derived.Laws.AppendOwn
import Derived.Lib.AppendZeros
import Derived.Test.YthlcdhddickdiaaDoorE20
import Derived.Test.YthlcdhddickdiaaDoorE28

namespace Go.Proofs.YthlcdhddickdiaaDoor
set_option maxRecDepth 100000
set_option maxHeartbeats 16000000
open Go.RowKit
set_option linter.unusedVariables false
set_option linter.unusedSimpArgs false

def tchB (xs ys:List Int):Bool:=xs.any (fun x=>decide (x ∈ ys))


def EntO (w0 w:World) (B:Nat) (v:Value) (es:List E3):Prop:=∃ L:List EQ,L.map (·.1)=es∧w.ownsRow B 39 3 v L.length (entL L)∧∀ x ∈ L,Emem w0 x.2 x.1
theorem EntO.below {w0 w w':World} {B:Nat} {v:Value} {es:List E3} (h:EntO w0 w B v es) (hb:Below w.heap.size w w'):EntO w0 w' B v es:=by
 obtain ⟨L,h1,h2,h3⟩:=h
 exact ⟨L,h1,owns8 h2 hb,h3⟩
theorem EntO.ents {w0 w:World} {B:Nat} {a:Option Addr} {n c:Nat} {es:List E3} (h:EntO w0 w B (.slice a n c) es) (hb:Below w0.heap.size w0 w):Ents w a n c es:=by
 obtain ⟨L,rfl,h2,h3⟩:=h
 obtain ⟨a',c',e⟩:=slice8 h2
 injection e with e1 e2 e3
 subst e1 e2 e3
 exact (EntQ.of_owns h2 (fun x hx=>(h3 x hx).below hb)).ents
theorem EntO.low {w0 w:World} {B:Nat} {v:Value} {es:List E3} (h:EntO w0 w B v es) {p:Addr} (hp:p.block<B) (u:Value):EntO w0 (w.setCell p u) B v es:=by
 obtain ⟨L,h1,h2,h3⟩:=h
 exact ⟨L,h1,ownsRow_setCell_below h2 hp u,h3⟩
theorem entL_snoc (L:List EQ) (x:EQ):entL (L++[x])=entL L++entC x.1.1 x.2:=by
 rw [entL_append]
 simp [entL]
def EntsGot (x:Ending) (w':World) (es:List E3):Prop:=∃ a n c,x=.returned (.agg #[.slice a n c])∧Ents w' a n c es
def MemGotC (x:Ending) (w':World) (B:Nat) (es:List E3) (c:Int):Prop:=∃ v,x=.returned (.tuple #[.agg #[v],.int .i64 c])∧OwnM w' B v es
theorem MemGotC.mk9 {w':World} {B:Nat} {v:Value} {es:List E3} {c:Int} (h:OwnM w' B v es):MemGotC (.returned (.tuple #[.agg #[v],.int .i64 c])) w' B es c:=⟨v,rfl,h⟩


theorem entL_take {L:List EQ} {k j:Nat} {u:Value} (h:(entL (L.take k))[j]?=some u):(entL L)[j]?=some u:=by
 obtain ⟨t,i,x,rfl,hi,hx,hu⟩:=entL_inv h
 have hx2:L[t]?=some x:=by
  rw [List.getElem?_take] at hx
  split at hx
  ·exact hx
  ·cases hx
 rw [entL_at hx2 hi]
 exact hu
theorem entL_drop {L:List EQ} {k j:Nat} {u:Value} (h:(entL (L.drop k))[j]?=some u):(entL L)[k*3+j]?=some u:=by
 obtain ⟨t,i,x,rfl,hi,hx,hu⟩:=entL_inv h
 have hx2:L[k+t]?=some x:=by rw [List.getElem?_drop] at hx;exact hx
 rw [show k*3+(t*3+i)=(k+t)*3+i by omega,entL_at hx2 hi]
 exact hu
theorem sliceE_h {w:World} {a:Option Addr} {n c hi:Nat} {L:List EQ} (h:EntQ w a n c L) (hz:a=none→c=0) (h2:hi≤n) :
  (∀ W,(Instr.slice 31 (.slice a n c) none (some (.int .i64 (hi:Int))) none).run Tryd.prog W=.ok (.slice a hi c) W)∧EntQ w a hi c (L.take hi):=by
 obtain ⟨hl,hlc,hcm,hm,hcase⟩:=h
 have hhc:(hi:Int)≤(c:Int):=by omega
 refine ⟨fun W=>?_,by rw [List.length_take];omega,by omega,hcm,fun x hx=>hm x (List.mem_of_mem_take hx),?_⟩
 ·rcases a with _ | ⟨b,off,sp⟩
  ·have:=hz rfl
   subst this
   obtain rfl:hi=0:=by omega
   obtain rfl:n=0:=by omega
   go_simp
  ·go_simp
   try omega
 ·rcases hcase with h0 | ⟨b,off,ha,hb,hc⟩
  ·exact .inl (by omega)
  ·exact .inr ⟨b,off,ha,hb,fun j u hj=>hc j u (entL_take hj)⟩
theorem sliceE_l {w:World} {a:Option Addr} {n c lo:Nat} {L:List EQ} (h:EntQ w a n c L) (hz:a=none→c=0) (h1:lo≤n) :
  ∃ a2,(∀ W,(Instr.slice 31 (.slice a n c) (some (.int .i64 (lo:Int))) none none).run Tryd.prog W=.ok (.slice a2 (n - lo) (c - lo)) W)∧EntQ w a2 (n - lo) (c - lo) (L.drop lo)∧(a2=none→c - lo=0):=by
 obtain ⟨hl,hlc,hcm,hm,hcase⟩:=h
 have hlh:(lo:Int)≤(n:Int):=by omega
 rcases a with _ | ⟨b,off,sp⟩
 ·have:=hz rfl
  subst this
  obtain rfl:n=0:=by omega
  obtain rfl:lo=0:=by omega
  refine ⟨none,fun W=>?_,⟨by rw [List.length_drop];omega,by omega,by omega,fun x hx=>hm x (List.mem_of_mem_drop hx),.inl rfl⟩,fun _=>rfl⟩
  go_simp
 ·by_cases hz:c - lo=0
  ·refine ⟨some ⟨b,off,sp⟩,fun W=>?_,⟨by rw [List.length_drop];omega,by omega,by omega,fun x hx=>hm x (List.mem_of_mem_drop hx),.inl (by omega)⟩,fun h9=>by cases h9⟩
   go_simp
   try omega
  ·rcases hcase with h0 | ⟨b',off',ha,hb,hc⟩
   ·obtain rfl:lo=0:=by omega
    refine ⟨some ⟨b,off,sp⟩,fun W=>?_,⟨by rw [List.length_drop];omega,by omega,by omega,fun x hx=>hm x (List.mem_of_mem_drop hx),.inl (by omega)⟩,fun h9=>by cases h9⟩
    go_simp
    first | done | (intro _;unfold Addr.add;split<;>simp_all;done) | (unfold Addr.add;split<;>simp_all)
   ·cases ha
    refine ⟨some ⟨b,off+lo*3,none⟩,fun W=>?_,⟨by rw [List.length_drop];omega,by omega,by omega,fun x hx=>hm x (List.mem_of_mem_drop hx),.inr ⟨b,off+lo*3,rfl,hb,fun j u hj=>?_⟩⟩,fun h9=>by cases h9⟩
    ·go_simp
     omega
    ·rw [Nat.add_assoc]
     exact hc _ _ (entL_drop hj)


theorem grown_setRowK (w:World) (g:Nat) (cs:Array Value):w.grownBy (w.setRow g cs) (some g):=⟨rfl,rfl,rfl,by simp [World.setRow],fun k _ hk=>setRow_other w g k cs (fun e=>hk (by rw [e]))⟩
theorem run_copyK {P:Program} (w:World) (dT sT ty elem:TypeId) (i:TypeInfo) (k g o dLen dCap:Nat) (a:Addr) (sLen sCap n:Nat) (cur:Array Value) (t:TypeId) (cs:List Value)
  (hu:P.underlying dT=some (.slice elem)) (hq:P.info? elem=some i) (hi:i.size=k)
  (hg:w.heap[g]?=some (.cells cur t (0,0))) (hn:n=Nat.min sLen dLen) (hl9:cs.length=n*k)
  (hsrc:∀ j v,cs[j]?=some v→w.cell? (a.add j)=some v) (hfit:o+cs.length≤cur.size) (h1:∀ v ∈ cs,v.oneCell'=true) :
  (Builtin.copy_ #[dT,sT] ty #[.slice (some ⟨g,o,none⟩) dLen dCap,.slice (some a) sLen sCap]).run P w =
   .ok (goInt n) (w.setRow g (cur.toList.take o++cs++cur.toList.drop (o+cs.length)).toArray):=by
 have hl:=run_loadCells_list (P:=P) w a cs hsrc
 have hst:=run_storeCells_at P g o t cs 0 cur w hg (by simpa using hfit) h1
 rw [hl9] at hl
 simp [Builtin.copy_,run_underlying hu,Builtin.lenOf,Builtin.firstCells,sizeOf,typeInfo,hq,hi,← hn,hl,hst]
theorem wpList_copyK {P:Program} {w:World} {ops:Array Oper} {rest:List Oper} {o:Oper} {a:Act} {Q:Exit→Act→World→Prop} (hgd:o.guard=none) (d s:Operand) (dT sT:TypeId)
  (ho:o.op=.call { callee:=.builtin .copy,args:=#[d,s],argTypes:=#[dT,sT] }) (elem:TypeId) (i:TypeInfo) (k:Nat) (hu:P.underlying dT=some (.slice elem)) (hq:P.info? elem=some i) (hi:i.size=k)
  (g off dLen dCap:Nat) (ad:Addr) (sLen sCap n:Nat) (hd:a.eval d=.slice (some ⟨g,off,none⟩) dLen dCap) (hs:a.eval s=.slice (some ad) sLen sCap)
  (cur:List Value) (t:TypeId) (hg:w.heap[g]?=some (.cells cur.toArray t (0,0))) (cs:List Value) (hn:n=Nat.min sLen dLen) (hl:cs.length=n*k)
  (hsrc:∀ j v,cs[j]?=some v→w.cell? (ad.add j)=some v) (hfit:off+cs.length≤cur.length) (h1:∀ v ∈ cs,v.oneCell'=true) (B:Nat) (w0:World) (hb:Below B w0 w) (hBg:B≤g)
  (h:∀ w',Hid (w'.heap[g]?=some (.cells (splice cur off cs).toArray t (0,0)))→Hid (w.grownBy w' (some g))→Below B w0 w'→wpList P ops Q rest (a.put o.dst (goInt n)) w'):wpList P ops Q (o::rest) a w:=by
 refine wpList_plain hgd fun K hK=>?_
 have hrun:=run_copyK (P:=P) w dT sT o.type elem i k g off dLen dCap ad sLen sCap n cur.toArray t cs hu hq hi hg hn hl hsrc (by simpa using hfit) h1
 unfold Oper.wp
 simp [execOp,ho,resolve,invoke,builtin,hd,hs,hrun,Result.andThen]
 exact hK _ _ (h _ (show _=_ by simpa [splice] using setRow_heap w g _ _ t _ hg) (grown_setRowK w g _) (below_setRow hb hBg _))
theorem step_copyK {P:Program} {ops:Array Oper} {o:Oper} {a:Act} {w:World} {K:Act→World→Prop} {Q:Exit→Act→World→Prop} {E:Prop} (hgd:o.guard=none) (d s:Operand) (dT sT:TypeId)
  (ho:o.op=.call { callee:=.builtin .copy,args:=#[d,s],argTypes:=#[dT,sT] }) (elem:TypeId) (i:TypeInfo) (k:Nat) (hu:P.underlying dT=some (.slice elem)) (hq:P.info? elem=some i) (hi:i.size=k)
  (g off dLen dCap:Nat) (ad:Addr) (sLen sCap n:Nat) (hd:a.eval d=.slice (some ⟨g,off,none⟩) dLen dCap) (hs:a.eval s=.slice (some ad) sLen sCap)
  (cur:List Value) (t:TypeId) (hg:w.heap[g]?=some (.cells cur.toArray t (0,0))) (cs:List Value) (hn:n=Nat.min sLen dLen) (hl:cs.length=n*k)
  (hsrc:∀ j v,cs[j]?=some v→w.cell? (ad.add j)=some v) (hfit:off+cs.length≤cur.length) (h1:∀ v ∈ cs,v.oneCell'=true) (B:Nat) (w0:World) (hb:Below B w0 w) (hBg:B≤g)
  (h:∀ w',Hid (w'.heap[g]?=some (.cells (splice cur off cs).toArray t (0,0)))→Hid (w.grownBy w' (some g))→Below B w0 w'→K (a.put o.dst (goInt n)) w') :
  if Region.wanted o (yielded ops a.tmps)=true then Oper.wp P o a w K Q else E:=by
 have hw:Region.wanted o (yielded ops a.tmps)=true:=by simp [Region.wanted,hgd]
 rw [if_pos hw]
 have hrun:=run_copyK (P:=P) w dT sT o.type elem i k g off dLen dCap ad sLen sCap n cur.toArray t cs hu hq hi hg hn hl hsrc (by simpa using hfit) h1
 unfold Oper.wp
 simp [execOp,ho,resolve,invoke,builtin,hd,hs,hrun,Result.andThen]
 exact h _ (show _=_ by simpa [splice] using setRow_heap w g _ _ t _ hg) (grown_setRowK w g _) (below_setRow hb hBg _)
theorem run_append_zeros_grow {P:Program} (w:World) (t tn ty e:TypeId) (i:TypeInfo) (z:Value) (kn k:IntKind) (ht:P.underlying t=some (.slice e)) (htn:P.underlying tn=some (.int kn)) (hi:P.info? e=some i) (hz:i.zero=some z)
  (b:Addr) (sLen sCap:Nat) (olds:List Value) (hlo:olds.length=sLen*i.size) (holds:∀ j v,olds[j]?=some v→w.cell? (b.add j)=some v)
  (m:Nat) (h0:0<m) (hs:0<i.size) (hg:sCap<sLen+m) (h63:((sLen+m:Nat):Int)≤9223372036854775807) (h48:m*i.bytes≤281474976710656) (hfit:Builtin.nextslicecap (sLen+m) sCap*i.bytes≤281474976710656) :
  (Builtin.append_ #[t,tn] ty #[.slice (some b) sLen sCap,.int k m]).run P w =
   .ok (.slice (some ⟨w.heap.size,0,none⟩) (sLen+m) (grownCap w (sLen+m) sCap e))
    (w.drew.alloc (.cells (olds.toArray++Builtin.zeroCells z.cells m++Builtin.zeroCells z.cells (grownCap w (sLen+m) sCap e - (sLen+m))) e)):=by
 have hn:¬ (sLen+m≤sCap):=by omega
 have hm0:m≠0:=by omega
 have hw:IntKind.i64.wrap (m:Int)=m:=by rw [IntKind.wrap_i64];omega
 have h63':¬ (9223372036854775807<((sLen:Int)+(m:Int))):=by omega
 have h48':¬ (281474976710656<Builtin.nextslicecap (sLen+m) sCap*i.bytes):=by omega
 have h48i:¬ (281474976710656<(m:Int)*(i.bytes:Int)):=by
  rw [← Int.natCast_mul]
  omega
 have hneg:¬ ((m:Int)<0):=by omega
 have hns:¬ (m*i.size=0):=Nat.mul_ne_zero hm0 (by omega)
 have hfo:=run_firstCells_some (P:=P) w.drew i.size sLen b sLen sCap olds hlo (by simpa using holds)
 simp [Builtin.append_,run_underlying ht,run_underlying htn,sizeOf,typeInfo,zeroValue,hi,hz,asInt,asIntOf,hw,hm0,hneg,hns,hn,h63',h48',h48i,Question.forced,hfo,newRow,grownCap]
 try (congr 2;apply Array.ext';simp [List.append_assoc])
end Go.Proofs.YthlcdhddickdiaaDoor
