/-
  Joined: Conv, TextS, Take, NumP, ReadP, WordsP, RpP, Parse.
-/
import Derived.Laws.BytesArg
import Derived.Laws.RangeString
import Derived.Laws.RangeAny
import Derived.Laws.Bits
import Derived.Lib.FieldsP
import Derived.Test.YtdojjmkpelgcaaaGreatDoorS04

namespace Go.Proofs.YtdojjmkpelgcaaaGreatDoor
set_option maxRecDepth 100000
open Go.RowKit

theorem info_u8:(Tryz.prog.info? 5).map (fun i=>(i.zero,i.size,i.bytes))=some (some (.int .u8 0),1,1):=by kernel_rfl
abbrev u8s (xs:List Int):List Value:=xs.map (Value.int .u8)

theorem conv_owned {w:World} {base n:Nat} {v:Value} {xs:List Int} (h:w.ownsRow base 5 1 v n (u8s xs)) :
  (convert 22 9 v).run Tryz.prog w=.ok (.string (strOfNums xs)) w:=by
 obtain ⟨hl,h2⟩:=h
 simp at hl
 rcases h2 with ⟨rfl,rfl⟩ | ⟨g,cap,cur,rfl,hg,hh,hn,hc,hs,ht⟩
 ·have:xs=[]:=by simpa using hl
  subst this
  exact run_convert_bytes_nil w 22 5 Tryz.underlying22 Tryz.underlying5 0 0 9 Tryz.underlying9
 ·refine run_convert_bytes_arg w 22 5 Tryz.underlying22 Tryz.underlying5 g 0 n cap xs hl (fun i hi=>?_) 9 Tryz.underlying9
  have hown:w.ownsRow base 5 1 (.slice (some ⟨g,0,none⟩) n cap) n (u8s xs):=⟨by simpa using hl,.inr ⟨g,cap,cur,rfl,hg,hh,hn,hc,hs,ht⟩⟩
  have:=hown.cellAt i (by omega)
  rw [Nat.zero_add,this]
  simp [List.getElem?_eq_getElem (show i<xs.length by omega)]

theorem one_u8 (n:Int):∀ u ∈ [Value.int .u8 n],u.oneCell'=true:=by intro u hu;simp at hu;subst hu;rfl


def opWL:List (List UInt8):=[[],[108,111,97,100],[115,116,111,114,101],[115,101,116],[97,100,100],[108,111,99,107],[117,110,108,111,99,107],[106,117,109,112],[97,115,115,101,114,116]]
def opB (k:Nat):ByteArray:=⟨(opWL.getD k []).toArray⟩


def bt (s:ByteArray) (k:Nat):Nat:=if h:k<s.size then (s[k]'h).toNat else 0
def IsEnd (s:ByteArray) (p k:Nat):Prop:=1≤k∧k≤5∧p+k≤s.size∧(∀ i,i+1<k→128≤bt s (p+i))∧bt s (p+k - 1)<128
theorem IsEnd.only {s:ByteArray} {p k j:Nat} (h:IsEnd s p k) (g:IsEnd s p j):k=j:=by
 obtain ⟨h1,h2,h3,h4,h5⟩:=h
 obtain ⟨g1,g2,g3,g4,g5⟩:=g
 rcases Nat.lt_trichotomy k j with hl | hl | hl
 ·have:=g4 (k - 1) (by omega)
  rw [show p+(k - 1)=p+k - 1 by omega] at this
  omega
 ·exact hl
 ·have:=h4 (j - 1) (by omega)
  rw [show p+(j - 1)=p+j - 1 by omega] at this
  omega
def val (s:ByteArray) (p:Nat):Nat→Nat
 | 0=>0
 | 1=>bt s p % 128
 | 2=>bt s p % 128+bt s (p+1) % 128*128
 | 3=>bt s p % 128+bt s (p+1) % 128*128+bt s (p+2) % 128*16384
 | 4=>bt s p % 128+bt s (p+1) % 128*128+bt s (p+2) % 128*16384+bt s (p+3) % 128*2097152
 | _=>bt s p % 128+bt s (p+1) % 128*128+bt s (p+2) % 128*16384+bt s (p+3) % 128*2097152+bt s (p+4) % 128*268435456

def Num (s:ByteArray) (p n k:Nat):Prop:=IsEnd s p k∧¬ (1<k∧bt s (p+k - 1)=0)∧n=val s p k∧n≤999999999
theorem Num.only {s:ByteArray} {p n k m j:Nat} (h:Num s p n k) (g:Num s p m j):n=m∧k=j:=by
 have e:=h.1.only g.1
 subst e
 exact ⟨h.2.2.1.trans g.2.2.1.symm,rfl⟩
def hv (s:ByteArray) (p k:Nat):Nat→Nat
 | 0=>0
 | j+1=>hv s p k j*128+bt s (p+k - 1 - j) % 128


def digVal (s:ByteArray):Nat→Nat
 | 0=>0
 | k+1=>10*digVal s k+(bt s k - 48)
def allDig (s:ByteArray) (k:Nat):Prop:=∀ i,i<k→48≤bt s i∧bt s i≤57
theorem digVal_lt {s:ByteArray}:∀ {k:Nat},allDig s k→digVal s k<10 ^ k
 | 0,_=>by simp [digVal]
 | k+1,h=>by
  have ih:=digVal_lt (k:=k) (fun i hi=>h i (by omega))
  have:=h k (by omega)
  rw [digVal,Nat.pow_succ]
  omega
theorem digVal_small {s:ByteArray} {k:Nat} (h:allDig s k) (hk:k≤18):digVal s k<1000000000000000000:=by
 have h1:=digVal_lt h
 have h2:10 ^ k≤10 ^ 18:=Nat.pow_le_pow_right (by omega) hk
 have:(10:Nat) ^ 18=1000000000000000000:=by decide
 omega
def IsDec (s:ByteArray) (n:Nat):Prop:=1≤s.size∧s.size≤18∧¬ (1<s.size∧bt s 0=48)∧allDig s s.size∧n=digVal s s.size
theorem IsDec.only {s:ByteArray} {n m:Nat} (h:IsDec s n) (g:IsDec s m):n=m:=h.2.2.2.2.trans g.2.2.2.2.symm
theorem IsDec.lt {s:ByteArray} {n:Nat} (h:IsDec s n):n<1000000000000000000:=by
 obtain ⟨_,h2,_,h4,rfl⟩:=h
 exact digVal_small h4 h2


def opK (t:ByteArray):Nat:=if t=opB 1 then 1 else if t=opB 2 then 2 else if t=opB 3 then 3 else if t=opB 4 then 4 else if t=opB 5 then 5 else if t=opB 6 then 6 else if t=opB 7 then 7 else if t=opB 8 then 8 else 0

def IsRead (ws:List ByteArray) (x:I3):Prop:=
 (∃ t0 t1 a,ws=[t0,t1]∧(opK t0=5∨opK t0=6)∧IsDec t1 a∧x=((opK t0:Int),(a:Int),0)∧okI x=true) ∨
 (∃ t0 t1 t2 a b,ws=[t0,t1,t2]∧¬ (opK t0=5∨opK t0=6)∧opK t0≠0∧IsDec t1 a∧IsDec t2 b∧x=((opK t0:Int),(a:Int),(b:Int))∧okI x=true)
theorem IsRead.only {ws:List ByteArray} {x y:I3} (h:IsRead ws x) (g:IsRead ws y):x=y:=by
 rcases h with ⟨t0,t1,a,rfl,_,ha,rfl,_⟩ | ⟨t0,t1,t2,a,b,rfl,_,_,ha,hb,rfl,_⟩<;>rcases g with ⟨s0,s1,c,e,_,hc,rfl,_⟩ | ⟨s0,s1,s2,c,d,e,_,_,hc,hd,rfl,_⟩
 ·cases e
  rw [ha.only hc]
 ·cases e
 ·cases e
 ·cases e
  rw [ha.only hc,hb.only hd]
theorem IsRead.ok {ws:List ByteArray} {x:I3} (h:IsRead ws x):okI x=true:=by
 rcases h with ⟨_,_,_,_,_,_,_,h⟩ | ⟨_,_,_,_,_,_,_,_,_,_,_,h⟩<;>exact h

open Go.Lib

def isBl (r:Nat):Bool:=r == 32

def wordsT (s:ByteArray):List ByteArray:=goFieldsP isBl s


def StepOf (t:ByteArray):Option (Nat × I3)→Prop
 | none=>wordsT t=[]
 | some (k,x)=>∃ w0 rest,wordsT t=w0::rest∧IsDec w0 k∧k<3∧IsRead rest x
def BadLine (t:ByteArray):Prop:=∀ o,¬ StepOf t o
theorem StepOf.only {t:ByteArray} {o o':Option (Nat × I3)} (h:StepOf t o) (g:StepOf t o'):o=o':=by
 match o,o',h,g with
 | none,none,_,_=>rfl
 | none,some (k,x),h,⟨w0,rest,e,_⟩ =>
  have h':wordsT t=[]:=h
  rw [h'] at e;cases e
 | some (k,x),none,⟨w0,rest,e,_⟩,h =>
  have h':wordsT t=[]:=h
  rw [h'] at e;cases e
 | some (k,x),some (k',x'),⟨w0,rest,e,h1,_,h2⟩,⟨w0',rest',e',g1,_,g2⟩ =>
  rw [e] at e'
  cases e'
  rw [h1.only g1,h2.only g2]
def AllSteps:List ByteArray→List (Option (Nat × I3))→Prop
 | [],[]=>True
 | t::ts,o::os=>StepOf t o∧AllSteps ts os
 | _,_=>False
theorem AllSteps.only:∀ {ts:List ByteArray} {os os':List (Option (Nat × I3))},AllSteps ts os→AllSteps ts os'→os=os'
 | [],[],[],_,_=>rfl
 | [],[],_::_,_,h=>h.elim
 | [],_::_,_,h,_=>h.elim
 | _::_,[],_,h,_=>h.elim
 | _::_,_::_,[],_,h=>h.elim
 | _::_,_::_,_::_,h,g=>by rw [h.1.only g.1,AllSteps.only h.2 g.2]
theorem AllSteps.good:∀ {ts:List ByteArray} {os:List (Option (Nat × I3))},AllSteps ts os→∀ t ∈ ts,¬ BadLine t
 | [],[],_,_,ht=>by cases ht
 | [],_::_,h,_,_=>h.elim
 | _::_,[],h,_,_=>h.elim
 | s::ts,o::os,h,t,ht=>by
  rcases List.mem_cons.1 ht with rfl | ht
  ·exact fun hb=>hb o h.1
  ·exact AllSteps.good h.2 t ht

def addTo (rows:List (List I3)):Option (Nat × I3)→List (List I3)
 | none=>rows
 | some (k,x)=>rows.set k (rows.getD k []++[x])
def rowsOf (os:List (Option (Nat × I3))):List (List I3):=os.foldl addTo [[],[],[]]
def IsRP (ts:List ByteArray) (rows:List (List I3)) (c:Int):Prop:=
 (c=0∧∃ os,AllSteps ts os∧rows=rowsOf os∧progOk rows=true) ∨
 (c=1∧rows=[]∧∃ os,AllSteps ts os∧progOk (rowsOf os)=false) ∨
 (c=3∧rows=[]∧∃ t ∈ ts,BadLine t)
theorem IsRP.same {ts:List ByteArray} {r r':List (List I3)} {c c':Int} (h:IsRP ts r c) (g:IsRP ts r' c'):r=r'∧c=c':=by
 rcases h with ⟨rfl,os,h1,rfl,h3⟩ | ⟨rfl,rfl,os,h1,h3⟩ | ⟨rfl,rfl,t,ht,hb⟩<;>rcases g with ⟨rfl,os',g1,rfl,g3⟩ | ⟨rfl,rfl,os',g1,g3⟩ | ⟨rfl,rfl,t',ht',hb'⟩
 ·rw [h1.only g1];exact ⟨rfl,rfl⟩
 ·rw [h1.only g1,g3] at h3;cases h3
 ·exact absurd hb' (h1.good t' ht')
 ·rw [h1.only g1,g3] at h3;cases h3
 ·exact ⟨rfl,rfl⟩
 ·exact absurd hb' (h1.good t' ht')
 ·exact absurd hb (g1.good t ht)
 ·exact absurd hb (g1.good t ht)
 ·exact ⟨rfl,rfl⟩
theorem IsRP.ok {ts:List ByteArray} {r:List (List I3)} {c:Int} (h:IsRP ts r c):r=[]∨progOk r=true:=by
 rcases h with ⟨_,_,_,_,h⟩ | ⟨_,rfl,_⟩ | ⟨_,rfl,_⟩
 ·exact .inr h
 ·exact .inl rfl
 ·exact .inl rfl
theorem okI_fits {x:I3} (h:okI x=true):I3.fits x:=by
 obtain ⟨h0,h1,h2⟩:=okI_small h
 have wf:∀ z:Int,0≤z∧z≤9→(Lit.int .i64 z).wf=true:=fun z hz=>by
  simp [Lit.wf,IntKind.min,IntKind.max,IntKind.signed,IntKind.bits]
  omega
 exact ⟨wf _ h0,wf _ h1,wf _ h2⟩


def triples:List Int→List I3
 | a::b::c::r=>(a,b,c)::triples r
 | _=>[]

def parse:Nat→List Int→Option (List (List I3))
 | 0,[]=>some []
 | 0,_::_=>none
 | _+1,[]=>none
 | k+1,n::zs=>if (zs.length:Int)<3*n then none else (parse k (zs.drop (3*n.toNat))).map (triples (zs.take (3*n.toNat))::·)

theorem parse_step {k:Nat} {n:Int} {zs:List Int} (h:¬ (zs.length:Int)<3*n):parse (k+1) (n::zs)=(parse k (zs.drop (3*n.toNat))).map (triples (zs.take (3*n.toNat))::·):=by simp [parse,h]
def PState (zs:List Int) (k:Nat) (done:List (List I3)) (rest:List Int):Prop:=parse 3 zs=(parse (3 - k) rest).map (done++·)

theorem PState.fail {zs:List Int} {k:Nat} {done:List (List I3)} {rest:List Int} (h:PState zs k done rest) (hn:parse (3 - k) rest=none):parse 3 zs=none:=by
 rw [h,hn];rfl
theorem PState.empty {zs:List Int} {k:Nat} {done:List (List I3)} (h:PState zs k done []) (hk:k<3):parse 3 zs=none:=by
 refine h.fail ?_
 obtain ⟨j,hj⟩:∃ j,3 - k=j+1:=⟨3 - k - 1,by omega⟩
 rw [hj];rfl
theorem PState.step {zs:List Int} {k:Nat} {done:List (List I3)} {n:Int} {ys:List Int} (h:PState zs k done (n::ys)) (hk:k<3) (hs:¬ (ys.length:Int)<3*n):PState zs (k+1) (done++[triples (ys.take (3*n.toNat))]) (ys.drop (3*n.toNat)):=by
 unfold PState at h ⊢
 obtain ⟨j,hj⟩:∃ j,3 - k=j+1:=⟨3 - k - 1,by omega⟩
 rw [h,hj,parse_step hs,show 3 - (k+1)=j by omega,Option.map_map]
 congr 1
 funext r
 simp
end Go.Proofs.YtdojjmkpelgcaaaGreatDoor
