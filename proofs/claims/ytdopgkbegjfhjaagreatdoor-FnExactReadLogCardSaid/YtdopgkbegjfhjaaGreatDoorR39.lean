/-
  Joined: MachO, Src, Src2, TextS, ReadP, WordsP, RpP, StrS.
-/
import Derived.Lib.FieldsP
import Derived.Test.YtdopgkbegjfhjaaGreatDoorR36
import Derived.Test.YtdopgkbegjfhjaaGreatDoorR38

namespace Go.Proofs.YtdopgkbegjfhjaaGreatDoor
set_option maxRecDepth 100000
set_option maxHeartbeats 16000000
open Go.RowKit

def RowsAt (w:World) (a:Option Addr) (cs:Sl × Sl × Sl) (rows:List (List I3)):Prop:=
 ∃ b off,a=some ⟨b,off,none⟩∧b<w.heap.size∧∀ k,k<3→w.cell? ⟨b,off+k,none⟩=some (.slice (slK cs k).1 (slK cs k).2.1 (slK cs k).2.2)∧Instrs w (slK cs k).1 (slK cs k).2.1 (slK cs k).2.2 (codeM rows k)
theorem RowsAt.below {w w':World} {a:Option Addr} {cs:Sl × Sl × Sl} {rows:List (List I3)} (h:RowsAt w a cs rows) (hb:Below w.heap.size w w'):RowsAt w' a cs rows:=by
 obtain ⟨b,off,ha,hlt,hk⟩:=h
 exact ⟨b,off,ha,Nat.lt_of_lt_of_le hlt hb.size,fun k h3=>⟨cells_kept hb _ _ (hk k h3).1,(hk k h3).2.below hb⟩⟩


def Src (w:World) (p:Nat) (c:Value) (T:Nat):Prop:=∃ m sd:Nat,w.heap[p]?=some (.cells #[c,.int .i64 m,.int .i64 sd] 82 (0,0))∧m≤T∧sd≤2147483647
def Code (w:World) (p:Nat) (a:Option Addr) (n cap:Nat):Prop:=∃ zs:List Int,Ints .u8 w a n cap zs∧(∀ z ∈ zs,0≤z∧z≤255)∧n≤1048577∧∀ x,a=some x→n≠0→x.block<p


abbrev Went (p:Nat) (w w':World):Prop:=w.grownBy w' (some p)
theorem Went.trans {p:Nat} {a b c:World} (h:Went p a b) (k:Went p b c):Went p a c:=
 ⟨k.os.trans h.os,k.tape.trans h.tape,k.output.trans h.output,Nat.le_trans h.size k.size,fun i hi hne=>(k.block i (Nat.lt_of_lt_of_le hi h.size) hne).trans (h.block i hi hne)⟩
theorem Went.below {p:Nat} {w w':World} (h:Went p w w') (hp:p≤w.heap.size):Below p w w':=
 (Below.refl _ _).grown h hp (fun k e=>by cases e;exact Nat.le_refl _)
theorem Went.alloc {p:Nat} {w w':World} (h:Went p w w') (o:Obj):Went p w (w'.alloc o):=h.trans (World.grownBy_alloc w' o _)
theorem Went.refl (p:Nat) (w:World):Went p w w:=World.grownBy.refl _ _
theorem Went.grown {p:Nat} {w w' w'':World} {row:Option Nat} (h:Went p w w') (g:w'.grownBy w'' row) (hr:∀ k,row=some k→w.heap.size≤k):Went p w w'':=
 ⟨g.os.trans h.os,g.tape.trans h.tape,g.output.trans h.output,Nat.le_trans h.size g.size,fun i hi hne=>(g.block i (Nat.lt_of_lt_of_le hi h.size) (fun e=>by have:=hr i e.symm;omega)).trans (h.block i hi hne)⟩
theorem Src.grown {p T:Nat} {c:Value} {w w':World} {row:Option Nat} (h:Src w p c T) (g:w.grownBy w' row) (hr:∀ k,row=some k→k≠p):Src w' p c T:=by
 obtain ⟨m,sd,hh,h1,h2⟩:=h
 have hl:p<w.heap.size:=(Array.getElem?_eq_some_iff.1 hh).1
 exact ⟨m,sd,by rw [g.block p hl (fun e=>hr p e.symm rfl)];exact hh,h1,h2⟩
theorem Src.alloc {p T:Nat} {c:Value} {w:World} (h:Src w p c T) (o:Obj):Src (w.alloc o) p c T:=h.grown (World.grownBy_alloc w o none) (fun k e=>by cases e)
theorem Src.lt {p T:Nat} {c:Value} {w:World} (h:Src w p c T):p<w.heap.size:=by
 obtain ⟨m,sd,hh,_⟩:=h
 exact (Array.getElem?_eq_some_iff.1 hh).1
theorem Src.mono {p T T':Nat} {c:Value} {w:World} (h:Src w p c T) (ht:T≤T'):Src w p c T':=by
 obtain ⟨m,sd,hh,h1,h2⟩:=h
 exact ⟨m,sd,hh,Nat.le_trans h1 ht,h2⟩
theorem Code.below {p n cap:Nat} {a:Option Addr} {w w':World} (h:Code w p a n cap) (hb:Below p w w'):Code w' p a n cap:=by
 obtain ⟨zs,⟨h1,h2,h3,h4⟩,h5,h6,h7⟩:=h
 refine ⟨zs,⟨h1,h2,h3,?_⟩,h5,h6,h7⟩
 rcases h4 with h4 | ⟨b,off,ha,hlt,hc⟩
 ·exact .inl h4
 ·rcases Nat.eq_zero_or_pos n with h0 | h0
  ·exact .inl h0
  ·have hbB:=h7 _ ha (by omega)
   exact .inr ⟨b,off,ha,by have:=hb.size;omega,fun t ht=>by rw [hb.cell (p:=⟨b,off+t,none⟩) hbB];exact hc t ht⟩


def opWL:List (List UInt8):=[[],[108,111,97,100],[115,116,111,114,101],[115,101,116],[97,100,100],[108,111,99,107],[117,110,108,111,99,107],[106,117,109,112],[97,115,115,101,114,116]]
def opB (k:Nat):ByteArray:=⟨(opWL.getD k []).toArray⟩


def opK (t:ByteArray):Nat:=if t=opB 1 then 1 else if t=opB 2 then 2 else if t=opB 3 then 3 else if t=opB 4 then 4 else if t=opB 5 then 5 else if t=opB 6 then 6 else if t=opB 7 then 7 else if t=opB 8 then 8 else 0

def IsRead (ws:List ByteArray) (x:I3):Prop:=
 (∃ t0 t1 a,ws=[t0,t1]∧(opK t0=5∨opK t0=6)∧IsDec t1 a∧x=((opK t0:Int),(a:Int),0)∧okI x=true) ∨
 (∃ t0 t1 t2 a b,ws=[t0,t1,t2]∧¬ (opK t0=5∨opK t0=6)∧opK t0≠0∧IsDec t1 a∧IsDec t2 b∧x=((opK t0:Int),(a:Int),(b:Int))∧okI x=true)
theorem IsRead.ok {ws:List ByteArray} {x:I3} (h:IsRead ws x):okI x=true:=by
 rcases h with ⟨_,_,_,_,_,_,_,h⟩ | ⟨_,_,_,_,_,_,_,_,_,_,_,h⟩<;>exact h

open Go.Lib

def isBl (r:Nat):Bool:=r == 32

def wordsT (s:ByteArray):List ByteArray:=goFieldsP isBl s


def StepOf (t:ByteArray):Option (Nat × I3)→Prop
 | none=>wordsT t=[]
 | some (k,x)=>∃ w0 rest,wordsT t=w0::rest∧IsDec w0 k∧k<3∧IsRead rest x
def BadLine (t:ByteArray):Prop:=∀ o,¬ StepOf t o
def AllSteps:List ByteArray→List (Option (Nat × I3))→Prop
 | [],[]=>True
 | t::ts,o::os=>StepOf t o∧AllSteps ts os
 | _,_=>False
def addTo (rows:List (List I3)):Option (Nat × I3)→List (List I3)
 | none=>rows
 | some (k,x)=>rows.set k (rows.getD k []++[x])
def rowsOf (os:List (Option (Nat × I3))):List (List I3):=os.foldl addTo [[],[],[]]
def IsRP (ts:List ByteArray) (rows:List (List I3)) (c:Int):Prop:=
 (c=0∧∃ os,AllSteps ts os∧rows=rowsOf os∧progOk rows=true) ∨
 (c=1∧rows=[]∧∃ os,AllSteps ts os∧progOk (rowsOf os)=false) ∨
 (c=3∧rows=[]∧∃ t ∈ ts,BadLine t)
theorem IsRP.ok {ts:List ByteArray} {r:List (List I3)} {c:Int} (h:IsRP ts r c):r=[]∨progOk r=true:=by
 rcases h with ⟨_,_,_,_,h⟩ | ⟨_,rfl,_⟩ | ⟨_,rfl,_⟩
 ·exact .inr h
 ·exact .inl rfl
 ·exact .inl rfl


def Strs (w:World) (a:Option Addr) (len cap:Nat) (ts:List ByteArray):Prop:=
 ts.length=len∧len≤cap∧cap≤maxLen ∧
 (len=0∨∃ b off,a=some ⟨b,off,none⟩∧b<w.heap.size∧∀ t,t<len→w.cell? ⟨b,off+t,none⟩=some (.string (ts.getD t ByteArray.empty)))

theorem Strs.below {w w':World} {a:Option Addr} {len cap:Nat} {ts:List ByteArray} (h:Strs w a len cap ts) (hb:Below w.heap.size w w'):Strs w' a len cap ts:=by
 obtain ⟨h1,h2,h3,h4⟩:=h
 refine ⟨h1,h2,h3,?_⟩
 rcases h4 with h4 | ⟨b,off,ha,hlt,hc⟩
 ·exact .inl h4
 ·exact .inr ⟨b,off,ha,by have:=hb.size;omega,fun t ht=>by rw [hb.cell (p:=⟨b,off+t,none⟩) hlt];exact hc t ht⟩

def OwnT (base:Nat) (w:World) (a:Option Addr) (n cap:Nat) (ts:List ByteArray):Prop:=
 ts.length=n∧n≤cap∧cap≤maxLen∧(n=0∨∃ g,a=some ⟨g,0,none⟩∧w.ownsRow base 9 1 (.slice (some ⟨g,0,none⟩) n cap) n (ts.map Value.string))

theorem OwnT.block {base:Nat} {w:World} {a:Option Addr} {n cap:Nat} {ts:List ByteArray} (h:OwnT base w a n cap ts):∀ x,a=some x→n≠0→x.block<w.heap.size:=by
 intro x hx hn
 rcases h.2.2.2 with h0 | ⟨g,e,ho⟩
 ·exact absurd h0 hn
 ·rw [e] at hx
  cases hx
  exact (ho.lt g rfl).2

end Go.Proofs.YtdopgkbegjfhjaaGreatDoor
