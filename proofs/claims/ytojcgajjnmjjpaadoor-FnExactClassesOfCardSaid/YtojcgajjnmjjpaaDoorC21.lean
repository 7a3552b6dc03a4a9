/-
  Joined: NumP, ReadP, WordsP, RpP, Parse, Prog5.
-/
import Derived.Lib.FieldsP
import Derived.Test.YtojcgajjnmjjpaaDoorC20

namespace Go.Proofs.YtojcgajjnmjjpaaDoor
set_option maxRecDepth 100000
set_option maxHeartbeats 16000000

def digVal (s:ByteArray):Nat→Nat
 | 0=>0
 | k+1=>10*digVal s k+(bt s k - 48)
def allDig (s:ByteArray) (k:Nat):Prop:=∀ i,i<k→48≤bt s i∧bt s i≤57
theorem digVal_lt {s:ByteArray}:∀ {k:Nat},allDig s k→digVal s k<10 ^ k
 | 0,_=>by simp [digVal]
 | k+1,h=>by
  have ih:=digVal_lt (k:=k) (fun i hi=>h i (by omega))
  have:=h k (by omega)
  rw [digVal,Nat.pow_succ]
  omega
theorem digVal_small {s:ByteArray} {k:Nat} (h:allDig s k) (hk:k≤18):digVal s k<1000000000000000000:=by
 have h1:=digVal_lt h
 have h2:10 ^ k≤10 ^ 18:=Nat.pow_le_pow_right (by omega) hk
 have:(10:Nat) ^ 18=1000000000000000000:=by decide
 omega
def IsDec (s:ByteArray) (n:Nat):Prop:=1≤s.size∧s.size≤18∧¬ (1<s.size∧bt s 0=48)∧allDig s s.size∧n=digVal s s.size
theorem IsDec.only {s:ByteArray} {n m:Nat} (h:IsDec s n) (g:IsDec s m):n=m:=h.2.2.2.2.trans g.2.2.2.2.symm
theorem IsDec.lt {s:ByteArray} {n:Nat} (h:IsDec s n):n<1000000000000000000:=by
 obtain ⟨_,h2,_,h4,rfl⟩:=h
 exact digVal_small h4 h2

open Go.RowKit

def opK (t:ByteArray):Nat:=if t=opB 1 then 1 else if t=opB 2 then 2 else if t=opB 3 then 3 else if t=opB 4 then 4 else if t=opB 5 then 5 else if t=opB 6 then 6 else if t=opB 7 then 7 else if t=opB 8 then 8 else 0

def IsRead (ws:List ByteArray) (x:I3):Prop:=
 (∃ t0 t1 a,ws=[t0,t1]∧(opK t0=5∨opK t0=6)∧IsDec t1 a∧x=((opK t0:Int),(a:Int),0)∧okI x=true) ∨
 (∃ t0 t1 t2 a b,ws=[t0,t1,t2]∧¬ (opK t0=5∨opK t0=6)∧opK t0≠0∧IsDec t1 a∧IsDec t2 b∧x=((opK t0:Int),(a:Int),(b:Int))∧okI x=true)
theorem IsRead.only {ws:List ByteArray} {x y:I3} (h:IsRead ws x) (g:IsRead ws y):x=y:=by
 rcases h with ⟨t0,t1,a,rfl,_,ha,rfl,_⟩ | ⟨t0,t1,t2,a,b,rfl,_,_,ha,hb,rfl,_⟩<;>rcases g with ⟨s0,s1,c,e,_,hc,rfl,_⟩ | ⟨s0,s1,s2,c,d,e,_,_,hc,hd,rfl,_⟩
 ·cases e
  rw [ha.only hc]
 ·cases e
 ·cases e
 ·cases e
  rw [ha.only hc,hb.only hd]
theorem IsRead.ok {ws:List ByteArray} {x:I3} (h:IsRead ws x):okI x=true:=by
 rcases h with ⟨_,_,_,_,_,_,_,h⟩ | ⟨_,_,_,_,_,_,_,_,_,_,_,h⟩<;>exact h

open Go.Lib

def isBl (r:Nat):Bool:=r == 32

def wordsT (s:ByteArray):List ByteArray:=goFieldsP isBl s


def StepOf (t:ByteArray):Option (Nat × I3)→Prop
 | none=>wordsT t=[]
 | some (k,x)=>∃ w0 rest,wordsT t=w0::rest∧IsDec w0 k∧k<3∧IsRead rest x
def BadLine (t:ByteArray):Prop:=∀ o,¬ StepOf t o
theorem StepOf.only {t:ByteArray} {o o':Option (Nat × I3)} (h:StepOf t o) (g:StepOf t o'):o=o':=by
 match o,o',h,g with
 | none,none,_,_=>rfl
 | none,some (k,x),h,⟨w0,rest,e,_⟩ =>
  have h':wordsT t=[]:=h
  rw [h'] at e;cases e
 | some (k,x),none,⟨w0,rest,e,_⟩,h =>
  have h':wordsT t=[]:=h
  rw [h'] at e;cases e
 | some (k,x),some (k',x'),⟨w0,rest,e,h1,_,h2⟩,⟨w0',rest',e',g1,_,g2⟩ =>
  rw [e] at e'
  cases e'
  rw [h1.only g1,h2.only g2]
def AllSteps:List ByteArray→List (Option (Nat × I3))→Prop
 | [],[]=>True
 | t::ts,o::os=>StepOf t o∧AllSteps ts os
 | _,_=>False
theorem AllSteps.only:∀ {ts:List ByteArray} {os os':List (Option (Nat × I3))},AllSteps ts os→AllSteps ts os'→os=os'
 | [],[],[],_,_=>rfl
 | [],[],_::_,_,h=>h.elim
 | [],_::_,_,h,_=>h.elim
 | _::_,[],_,h,_=>h.elim
 | _::_,_::_,[],_,h=>h.elim
 | _::_,_::_,_::_,h,g=>by rw [h.1.only g.1,AllSteps.only h.2 g.2]
def addTo (rows:List (List I3)):Option (Nat × I3)→List (List I3)
 | none=>rows
 | some (k,x)=>rows.set k (rows.getD k []++[x])
def rowsOf (os:List (Option (Nat × I3))):List (List I3):=os.foldl addTo [[],[],[]]
def IsRP (ts:List ByteArray) (rows:List (List I3)) (c:Int):Prop:=
 (c=0∧∃ os,AllSteps ts os∧rows=rowsOf os∧progOk rows=true) ∨
 (c=1∧rows=[]∧∃ os,AllSteps ts os∧progOk (rowsOf os)=false) ∨
 (c=3∧rows=[]∧∃ t ∈ ts,BadLine t)
theorem IsRP.ok {ts:List ByteArray} {r:List (List I3)} {c:Int} (h:IsRP ts r c):r=[]∨progOk r=true:=by
 rcases h with ⟨_,_,_,_,h⟩ | ⟨_,rfl,_⟩ | ⟨_,rfl,_⟩
 ·exact .inr h
 ·exact .inl rfl
 ·exact .inl rfl


def triples:List Int→List I3
 | a::b::c::r=>(a,b,c)::triples r
 | _=>[]

def parse:Nat→List Int→Option (List (List I3))
 | 0,[]=>some []
 | 0,_::_=>none
 | _+1,[]=>none
 | k+1,n::zs=>if (zs.length:Int)<3*n then none else (parse k (zs.drop (3*n.toNat))).map (triples (zs.take (3*n.toNat))::·)

def PState (zs:List Int) (k:Nat) (done:List (List I3)) (rest:List Int):Prop:=parse 3 zs=(parse (3 - k) rest).map (done++·)

theorem PState.fail {zs:List Int} {k:Nat} {done:List (List I3)} {rest:List Int} (h:PState zs k done rest) (hn:parse (3 - k) rest=none):parse 3 zs=none:=by
 rw [h,hn];rfl
theorem PState.empty {zs:List Int} {k:Nat} {done:List (List I3)} (h:PState zs k done []) (hk:k<3):parse 3 zs=none:=by
 refine h.fail ?_
 obtain ⟨j,hj⟩:∃ j,3 - k=j+1:=⟨3 - k - 1,by omega⟩
 rw [hj];rfl


def RowsOwn (w:World) (B k:Nat) (vs:List Value) (rows:List (List I3)):Prop:=
 (∀ t,t<k→w.ownsRow B 121 3 (vs.getD t undef) (rows.getD t []).length (flat (rows.getD t []))) ∧
 ∀ t t',t<k→t'<k→t≠t'→(vs.getD t undef).ownBlock=none∨(vs.getD t undef).ownBlock≠(vs.getD t' undef).ownBlock

theorem RowsOwn.below {w w':World} {B k:Nat} {vs:List Value} {rows:List (List I3)} (h:RowsOwn w B k vs rows) (hb:Below w.heap.size w w'):RowsOwn w' B k vs rows:=⟨fun t ht=>owns_below (h.1 t ht) hb,h.2⟩

theorem RowsOwn.put {w w':World} {B P k G len:Nat} {vs:List Value} {rows:List (List I3)} (h:RowsOwn w B k vs rows) (hb:Below w.heap.size w w') (hk:k<vs.length) (hG:w.heap.size≤G)
  (hn:w'.ownsRow B 121 3 (.slice (some ⟨G,0,none⟩) len len) (rows.getD k []).length (flat (rows.getD k []))) (hP:P<w.heap.size) (hPn:∀ t,t<k→(vs.getD t undef).ownBlock≠some P) :
  RowsOwn (w'.setCell ⟨P,k,none⟩ (.slice (some ⟨G,0,none⟩) len len)) B (k+1) (vs.set k (.slice (some ⟨G,0,none⟩) len len)) rows:=by
 have hold:∀ t,t≠k→(vs.set k (.slice (some ⟨G,0,none⟩) len len)).getD t undef=vs.getD t undef:=fun t ht=>by simp [List.getD,List.getElem?_set_ne (Ne.symm ht)]
 have hnew:(vs.set k (.slice (some ⟨G,0,none⟩) len len)).getD k undef=.slice (some ⟨G,0,none⟩) len len:=by simp [List.getD,hk]
 refine ⟨fun t ht=>?_,fun t t' ht ht' hne=>?_⟩
 ·by_cases e:t=k
  ·subst e
   rw [hnew]
   exact ownsRow_setCell_other hn (by simp [Value.ownBlock];omega) _
  ·rw [hold t e]
   exact ownsRow_setCell_other (owns_below (h.1 t (by omega)) hb) (hPn t (by omega)) _
 ·by_cases e:t=k
  ·subst e
   rw [hnew,hold t' (Ne.symm hne)]
   refine .inr ?_
   simp only [Value.ownBlock,ne_eq]
   intro h'
   have:=((h.1 t' (by omega)).lt G h'.symm).2
   omega
  ·rw [hold t e]
   by_cases e':t'=k
   ·subst e'
    rw [hnew]
    rcases hbk:(vs.getD t undef).ownBlock with _ | x
    ·exact .inl rfl
    ·refine .inr ?_
     simp only [Value.ownBlock,ne_eq,Option.some.injEq]
     have:=((h.1 t (by omega)).lt x hbk).2
     omega
   ·rw [hold t' e']
    exact h.2 t t' (by omega) (by omega) hne

theorem OwnProg.low {w:World} {B:Nat} {v:Value} {rows:List (List I3)} (h:OwnProg w B v rows) {p:Addr} (hp:p.block<B) (u:Value):OwnProg (w.setCell p u) B v rows:=by
 obtain ⟨vs,h1,h2,h3,h4⟩:=h
 exact ⟨vs,ownsRow_setCell_below h1 hp _,h2,fun t ht=>ownsRow_setCell_below (h3 t ht) hp _,h4⟩

end Go.Proofs.YtojcgajjnmjjpaaDoor
