/-
  Joined: TextS, Take, NumP, ReadP, WordsP, RpP, Parse, Prog5, ProgL, ProgM, StrS, RpM.
-/
import Derived.Laws.RangeString
import Derived.Laws.RangeAny
import Derived.Laws.Bits
import Derived.Lib.FieldsP
import Derived.Maps.AppendAt
import Derived.Test.YtgmhhegckcionaaGreatDoorP05

namespace Go.Proofs.YtgmhhegckcionaaGreatDoor
set_option maxRecDepth 100000
set_option maxHeartbeats 16000000
open Go.RowKit

def opWL:List (List UInt8):=[[],[108,111,97,100],[115,116,111,114,101],[115,101,116],[97,100,100],[108,111,99,107],[117,110,108,111,99,107],[106,117,109,112],[97,115,115,101,114,116]]
def opB (k:Nat):ByteArray:=⟨(opWL.getD k []).toArray⟩


def bt (s:ByteArray) (k:Nat):Nat:=if h:k<s.size then (s[k]'h).toNat else 0
def IsEnd (s:ByteArray) (p k:Nat):Prop:=1≤k∧k≤5∧p+k≤s.size∧(∀ i,i+1<k→128≤bt s (p+i))∧bt s (p+k - 1)<128
theorem IsEnd.only {s:ByteArray} {p k j:Nat} (h:IsEnd s p k) (g:IsEnd s p j):k=j:=by
 obtain ⟨h1,h2,h3,h4,h5⟩:=h
 obtain ⟨g1,g2,g3,g4,g5⟩:=g
 rcases Nat.lt_trichotomy k j with hl | hl | hl
 ·have:=g4 (k - 1) (by omega)
  rw [show p+(k - 1)=p+k - 1 by omega] at this
  omega
 ·exact hl
 ·have:=h4 (j - 1) (by omega)
  rw [show p+(j - 1)=p+j - 1 by omega] at this
  omega
def val (s:ByteArray) (p:Nat):Nat→Nat
 | 0=>0
 | 1=>bt s p % 128
 | 2=>bt s p % 128+bt s (p+1) % 128*128
 | 3=>bt s p % 128+bt s (p+1) % 128*128+bt s (p+2) % 128*16384
 | 4=>bt s p % 128+bt s (p+1) % 128*128+bt s (p+2) % 128*16384+bt s (p+3) % 128*2097152
 | _=>bt s p % 128+bt s (p+1) % 128*128+bt s (p+2) % 128*16384+bt s (p+3) % 128*2097152+bt s (p+4) % 128*268435456

def Num (s:ByteArray) (p n k:Nat):Prop:=IsEnd s p k∧¬ (1<k∧bt s (p+k - 1)=0)∧n=val s p k∧n≤999999999
theorem Num.only {s:ByteArray} {p n k m j:Nat} (h:Num s p n k) (g:Num s p m j):n=m∧k=j:=by
 have e:=h.1.only g.1
 subst e
 exact ⟨h.2.2.1.trans g.2.2.1.symm,rfl⟩
def hv (s:ByteArray) (p k:Nat):Nat→Nat
 | 0=>0
 | j+1=>hv s p k j*128+bt s (p+k - 1 - j) % 128


def digVal (s:ByteArray):Nat→Nat
 | 0=>0
 | k+1=>10*digVal s k+(bt s k - 48)
def allDig (s:ByteArray) (k:Nat):Prop:=∀ i,i<k→48≤bt s i∧bt s i≤57
theorem digVal_lt {s:ByteArray}:∀ {k:Nat},allDig s k→digVal s k<10 ^ k
 | 0,_=>by simp [digVal]
 | k+1,h=>by
  have ih:=digVal_lt (k:=k) (fun i hi=>h i (by omega))
  have:=h k (by omega)
  rw [digVal,Nat.pow_succ]
  omega
theorem digVal_small {s:ByteArray} {k:Nat} (h:allDig s k) (hk:k≤18):digVal s k<1000000000000000000:=by
 have h1:=digVal_lt h
 have h2:10 ^ k≤10 ^ 18:=Nat.pow_le_pow_right (by omega) hk
 have:(10:Nat) ^ 18=1000000000000000000:=by decide
 omega
def IsDec (s:ByteArray) (n:Nat):Prop:=1≤s.size∧s.size≤18∧¬ (1<s.size∧bt s 0=48)∧allDig s s.size∧n=digVal s s.size
theorem IsDec.only {s:ByteArray} {n m:Nat} (h:IsDec s n) (g:IsDec s m):n=m:=h.2.2.2.2.trans g.2.2.2.2.symm
theorem IsDec.lt {s:ByteArray} {n:Nat} (h:IsDec s n):n<1000000000000000000:=by
 obtain ⟨_,h2,_,h4,rfl⟩:=h
 exact digVal_small h4 h2


def opK (t:ByteArray):Nat:=if t=opB 1 then 1 else if t=opB 2 then 2 else if t=opB 3 then 3 else if t=opB 4 then 4 else if t=opB 5 then 5 else if t=opB 6 then 6 else if t=opB 7 then 7 else if t=opB 8 then 8 else 0

def IsRead (ws:List ByteArray) (x:I3):Prop:=
 (∃ t0 t1 a,ws=[t0,t1]∧(opK t0=5∨opK t0=6)∧IsDec t1 a∧x=((opK t0:Int),(a:Int),0)∧okI x=true) ∨
 (∃ t0 t1 t2 a b,ws=[t0,t1,t2]∧¬ (opK t0=5∨opK t0=6)∧opK t0≠0∧IsDec t1 a∧IsDec t2 b∧x=((opK t0:Int),(a:Int),(b:Int))∧okI x=true)
theorem IsRead.only {ws:List ByteArray} {x y:I3} (h:IsRead ws x) (g:IsRead ws y):x=y:=by
 rcases h with ⟨t0,t1,a,rfl,_,ha,rfl,_⟩ | ⟨t0,t1,t2,a,b,rfl,_,_,ha,hb,rfl,_⟩<;>rcases g with ⟨s0,s1,c,e,_,hc,rfl,_⟩ | ⟨s0,s1,s2,c,d,e,_,_,hc,hd,rfl,_⟩
 ·cases e
  rw [ha.only hc]
 ·cases e
 ·cases e
 ·cases e
  rw [ha.only hc,hb.only hd]
theorem IsRead.ok {ws:List ByteArray} {x:I3} (h:IsRead ws x):okI x=true:=by
 rcases h with ⟨_,_,_,_,_,_,_,h⟩ | ⟨_,_,_,_,_,_,_,_,_,_,_,h⟩<;>exact h

open Go.Lib

def isBl (r:Nat):Bool:=r == 32

def wordsT (s:ByteArray):List ByteArray:=goFieldsP isBl s


def StepOf (t:ByteArray):Option (Nat × I3)→Prop
 | none=>wordsT t=[]
 | some (k,x)=>∃ w0 rest,wordsT t=w0::rest∧IsDec w0 k∧k<3∧IsRead rest x
def BadLine (t:ByteArray):Prop:=∀ o,¬ StepOf t o
theorem StepOf.only {t:ByteArray} {o o':Option (Nat × I3)} (h:StepOf t o) (g:StepOf t o'):o=o':=by
 match o,o',h,g with
 | none,none,_,_=>rfl
 | none,some (k,x),h,⟨w0,rest,e,_⟩ =>
  have h':wordsT t=[]:=h
  rw [h'] at e;cases e
 | some (k,x),none,⟨w0,rest,e,_⟩,h =>
  have h':wordsT t=[]:=h
  rw [h'] at e;cases e
 | some (k,x),some (k',x'),⟨w0,rest,e,h1,_,h2⟩,⟨w0',rest',e',g1,_,g2⟩ =>
  rw [e] at e'
  cases e'
  rw [h1.only g1,h2.only g2]
def AllSteps:List ByteArray→List (Option (Nat × I3))→Prop
 | [],[]=>True
 | t::ts,o::os=>StepOf t o∧AllSteps ts os
 | _,_=>False
theorem AllSteps.only:∀ {ts:List ByteArray} {os os':List (Option (Nat × I3))},AllSteps ts os→AllSteps ts os'→os=os'
 | [],[],[],_,_=>rfl
 | [],[],_::_,_,h=>h.elim
 | [],_::_,_,h,_=>h.elim
 | _::_,[],_,h,_=>h.elim
 | _::_,_::_,[],_,h=>h.elim
 | _::_,_::_,_::_,h,g=>by rw [h.1.only g.1,AllSteps.only h.2 g.2]
theorem AllSteps.good:∀ {ts:List ByteArray} {os:List (Option (Nat × I3))},AllSteps ts os→∀ t ∈ ts,¬ BadLine t
 | [],[],_,_,ht=>by cases ht
 | [],_::_,h,_,_=>h.elim
 | _::_,[],h,_,_=>h.elim
 | s::ts,o::os,h,t,ht=>by
  rcases List.mem_cons.1 ht with rfl | ht
  ·exact fun hb=>hb o h.1
  ·exact AllSteps.good h.2 t ht

def addTo (rows:List (List I3)):Option (Nat × I3)→List (List I3)
 | none=>rows
 | some (k,x)=>rows.set k (rows.getD k []++[x])
def rowsOf (os:List (Option (Nat × I3))):List (List I3):=os.foldl addTo [[],[],[]]
def IsRP (ts:List ByteArray) (rows:List (List I3)) (c:Int):Prop:=
 (c=0∧∃ os,AllSteps ts os∧rows=rowsOf os∧progOk rows=true) ∨
 (c=1∧rows=[]∧∃ os,AllSteps ts os∧progOk (rowsOf os)=false) ∨
 (c=3∧rows=[]∧∃ t ∈ ts,BadLine t)
theorem IsRP.same {ts:List ByteArray} {r r':List (List I3)} {c c':Int} (h:IsRP ts r c) (g:IsRP ts r' c'):r=r'∧c=c':=by
 rcases h with ⟨rfl,os,h1,rfl,h3⟩ | ⟨rfl,rfl,os,h1,h3⟩ | ⟨rfl,rfl,t,ht,hb⟩<;>rcases g with ⟨rfl,os',g1,rfl,g3⟩ | ⟨rfl,rfl,os',g1,g3⟩ | ⟨rfl,rfl,t',ht',hb'⟩
 ·rw [h1.only g1];exact ⟨rfl,rfl⟩
 ·rw [h1.only g1,g3] at h3;cases h3
 ·exact absurd hb' (h1.good t' ht')
 ·rw [h1.only g1,g3] at h3;cases h3
 ·exact ⟨rfl,rfl⟩
 ·exact absurd hb' (h1.good t' ht')
 ·exact absurd hb (g1.good t ht)
 ·exact absurd hb (g1.good t ht)
 ·exact ⟨rfl,rfl⟩
theorem IsRP.ok {ts:List ByteArray} {r:List (List I3)} {c:Int} (h:IsRP ts r c):r=[]∨progOk r=true:=by
 rcases h with ⟨_,_,_,_,h⟩ | ⟨_,rfl,_⟩ | ⟨_,rfl,_⟩
 ·exact .inr h
 ·exact .inl rfl
 ·exact .inl rfl
theorem getD_set_same {rows:List (List I3)} {k:Nat} (r:List I3) (h:k<rows.length):(rows.set k r).getD k []=r:=by simp [List.getD,h]
theorem getD_set_other {rows:List (List I3)} {k j:Nat} (r:List I3) (h:j≠k):(rows.set k r).getD j []=rows.getD j []:=by simp [List.getD,List.getElem?_set_ne (Ne.symm h)]
theorem okI_fits {x:I3} (h:okI x=true):I3.fits x:=by
 obtain ⟨h0,h1,h2⟩:=okI_small h
 have wf:∀ z:Int,0≤z∧z≤9→(Lit.int .i64 z).wf=true:=fun z hz=>by
  simp [Lit.wf,IntKind.min,IntKind.max,IntKind.signed,IntKind.bits]
  omega
 exact ⟨wf _ h0,wf _ h1,wf _ h2⟩


def triples:List Int→List I3
 | a::b::c::r=>(a,b,c)::triples r
 | _=>[]

def parse:Nat→List Int→Option (List (List I3))
 | 0,[]=>some []
 | 0,_::_=>none
 | _+1,[]=>none
 | k+1,n::zs=>if (zs.length:Int)<3*n then none else (parse k (zs.drop (3*n.toNat))).map (triples (zs.take (3*n.toNat))::·)

theorem parse_step {k:Nat} {n:Int} {zs:List Int} (h:¬ (zs.length:Int)<3*n):parse (k+1) (n::zs)=(parse k (zs.drop (3*n.toNat))).map (triples (zs.take (3*n.toNat))::·):=by simp [parse,h]
def PState (zs:List Int) (k:Nat) (done:List (List I3)) (rest:List Int):Prop:=parse 3 zs=(parse (3 - k) rest).map (done++·)

theorem PState.step {zs:List Int} {k:Nat} {done:List (List I3)} {n:Int} {ys:List Int} (h:PState zs k done (n::ys)) (hk:k<3) (hs:¬ (ys.length:Int)<3*n):PState zs (k+1) (done++[triples (ys.take (3*n.toNat))]) (ys.drop (3*n.toNat)):=by
 unfold PState at h ⊢
 obtain ⟨j,hj⟩:∃ j,3 - k=j+1:=⟨3 - k - 1,by omega⟩
 rw [h,hj,parse_step hs,show 3 - (k+1)=j by omega,Option.map_map]
 congr 1
 funext r
 simp
theorem PState.done {zs:List Int} {done:List (List I3)} (h:PState zs 3 done []):parse 3 zs=some done:=by
 unfold PState at h
 rw [h];simp [parse]


def RowsOwn (w:World) (B k:Nat) (vs:List Value) (rows:List (List I3)):Prop:=
 (∀ t,t<k→w.ownsRow B 122 3 (vs.getD t undef) (rows.getD t []).length (flat (rows.getD t []))) ∧
 ∀ t t',t<k→t'<k→t≠t'→(vs.getD t undef).ownBlock=none∨(vs.getD t undef).ownBlock≠(vs.getD t' undef).ownBlock

theorem RowsOwn.below {w w':World} {B k:Nat} {vs:List Value} {rows:List (List I3)} (h:RowsOwn w B k vs rows) (hb:Below w.heap.size w w'):RowsOwn w' B k vs rows:=⟨fun t ht=>owns_below (h.1 t ht) hb,h.2⟩

theorem RowsOwn.put {w w':World} {B P k G len:Nat} {vs:List Value} {rows:List (List I3)} (h:RowsOwn w B k vs rows) (hb:Below w.heap.size w w') (hk:k<vs.length) (hG:w.heap.size≤G)
  (hn:w'.ownsRow B 122 3 (.slice (some ⟨G,0,none⟩) len len) (rows.getD k []).length (flat (rows.getD k []))) (hP:P<w.heap.size) (hPn:∀ t,t<k→(vs.getD t undef).ownBlock≠some P) :
  RowsOwn (w'.setCell ⟨P,k,none⟩ (.slice (some ⟨G,0,none⟩) len len)) B (k+1) (vs.set k (.slice (some ⟨G,0,none⟩) len len)) rows:=by
 have hold:∀ t,t≠k→(vs.set k (.slice (some ⟨G,0,none⟩) len len)).getD t undef=vs.getD t undef:=fun t ht=>by simp [List.getD,List.getElem?_set_ne (Ne.symm ht)]
 have hnew:(vs.set k (.slice (some ⟨G,0,none⟩) len len)).getD k undef=.slice (some ⟨G,0,none⟩) len len:=by simp [List.getD,hk]
 refine ⟨fun t ht=>?_,fun t t' ht ht' hne=>?_⟩
 ·by_cases e:t=k
  ·subst e
   rw [hnew]
   exact ownsRow_setCell_other hn (by simp [Value.ownBlock];omega) _
  ·rw [hold t e]
   exact ownsRow_setCell_other (owns_below (h.1 t (by omega)) hb) (hPn t (by omega)) _
 ·by_cases e:t=k
  ·subst e
   rw [hnew,hold t' (Ne.symm hne)]
   refine .inr ?_
   simp only [Value.ownBlock,ne_eq]
   intro h'
   have:=((h.1 t' (by omega)).lt G h'.symm).2
   omega
  ·rw [hold t e]
   by_cases e':t'=k
   ·subst e'
    rw [hnew]
    rcases hbk:(vs.getD t undef).ownBlock with _ | x
    ·exact .inl rfl
    ·refine .inr ?_
     simp only [Value.ownBlock,ne_eq,Option.some.injEq]
     have:=((h.1 t (by omega)).lt x hbk).2
     omega
   ·rw [hold t' e']
    exact h.2 t t' (by omega) (by omega) hne

theorem OwnProg.low {w:World} {B:Nat} {v:Value} {rows:List (List I3)} (h:OwnProg w B v rows) {p:Addr} (hp:p.block<B) (u:Value):OwnProg (w.setCell p u) B v rows:=by
 obtain ⟨vs,h1,h2,h3,h4⟩:=h
 exact ⟨vs,ownsRow_setCell_below h1 hp _,h2,fun t ht=>ownsRow_setCell_below (h3 t ht) hp _,h4⟩


theorem owns_lower {w:World} {B B' e s n:Nat} {v:Value} {cs:List Value} (h:w.ownsRow B e s v n cs) (hB:B'≤B):w.ownsRow B' e s v n cs:=by
 refine ⟨h.1,?_⟩
 rcases h.2 with h0 | ⟨g,cap,cur,hv,hg,r⟩
 ·exact .inl h0
 ·exact .inr ⟨g,cap,cur,hv,by omega,r⟩


theorem RowsOwn.snoc {w w':World} {B P k G len:Nat} {vs:List Value} {done:List (List I3)} {r:List I3} (h:RowsOwn w B k vs done) (hd:done.length=k) (hb:Below w.heap.size w w') (hk:k<vs.length) (hG:w.heap.size≤G)
  (hn:w'.ownsRow B 122 3 (.slice (some ⟨G,0,none⟩) len len) r.length (flat r)) (hP:P<w.heap.size) (hPn:∀ t,t<k→(vs.getD t undef).ownBlock≠some P) :
  RowsOwn (w'.setCell ⟨P,k,none⟩ (.slice (some ⟨G,0,none⟩) len len)) B (k+1) (vs.set k (.slice (some ⟨G,0,none⟩) len len)) (done++[r]):=by
 have hold:∀ t,t<k→(done++[r]).getD t []=done.getD t []:=fun t ht=>by simp [List.getD,List.getElem?_append_left (show t<done.length by omega)]
 have hnew:(done++[r]).getD k []=r:=by subst hd;simp [List.getD]
 have h':RowsOwn w B k vs (done++[r]):=⟨fun t ht=>by rw [hold t ht];exact h.1 t ht,h.2⟩
 exact h'.put hb hk hG (by rw [hnew];exact hn) hP hPn

theorem triples_mem:∀ (zs:List Int) (x:I3),x ∈ triples zs→x.1 ∈ zs∧x.2.1 ∈ zs∧x.2.2 ∈ zs
 | [],x,h=>by simp [triples] at h
 | [_],x,h=>by simp [triples] at h
 | [_,_],x,h=>by simp [triples] at h
 | a::b::c::r,x,h=>by
  rw [triples] at h
  rcases List.mem_cons.1 h with rfl | h
  ·simp
  ·obtain ⟨h1,h2,h3⟩:=triples_mem r x h
   simp [h1,h2,h3]
theorem OwnProg.lower {w:World} {B B':Nat} {v:Value} {rows:List (List I3)} (h:OwnProg w B v rows) (hB:B'≤B):OwnProg w B' v rows:=by
 obtain ⟨vs,h1,h2,h3,h4⟩:=h
 exact ⟨vs,owns_lower h1 hB,h2,fun t ht=>owns_lower (h3 t ht) hB,h4⟩


def Strs (w:World) (a:Option Addr) (len cap:Nat) (ts:List ByteArray):Prop:=
 ts.length=len∧len≤cap∧cap≤maxLen ∧
 (len=0∨∃ b off,a=some ⟨b,off,none⟩∧b<w.heap.size∧∀ t,t<len→w.cell? ⟨b,off+t,none⟩=some (.string (ts.getD t ByteArray.empty)))

theorem Strs.below {w w':World} {a:Option Addr} {len cap:Nat} {ts:List ByteArray} (h:Strs w a len cap ts) (hb:Below w.heap.size w w'):Strs w' a len cap ts:=by
 obtain ⟨h1,h2,h3,h4⟩:=h
 refine ⟨h1,h2,h3,?_⟩
 rcases h4 with h4 | ⟨b,off,ha,hlt,hc⟩
 ·exact .inl h4
 ·exact .inr ⟨b,off,ha,by have:=hb.size;omega,fun t ht=>by rw [hb.cell (p:=⟨b,off+t,none⟩) hlt];exact hc t ht⟩

def OwnT (base:Nat) (w:World) (a:Option Addr) (n cap:Nat) (ts:List ByteArray):Prop:=
 ts.length=n∧n≤cap∧cap≤maxLen∧(n=0∨∃ g,a=some ⟨g,0,none⟩∧w.ownsRow base 9 1 (.slice (some ⟨g,0,none⟩) n cap) n (ts.map Value.string))

theorem OwnT.kept {base:Nat} {w w':World} {a:Option Addr} {n cap:Nat} {ts:List ByteArray} (h:OwnT base w a n cap ts) (hb:Below w.heap.size w w'):OwnT base w' a n cap ts:=by
 obtain ⟨h1,h2,h3,h4⟩:=h
 refine ⟨h1,h2,h3,?_⟩
 rcases h4 with h4 | ⟨g,ha,h4⟩
 ·exact .inl h4
 ·refine .inr ⟨g,ha,h4.1,?_⟩
  have hlt:=(h4.lt g rfl).2
  rcases h4.2 with h0 | ⟨g',cap',cur,hv,hg,hh,hr⟩
  ·exact .inl h0
  ·cases hv
   exact .inr ⟨g,cap,cur,rfl,hg,by rw [hb.block _ hlt];exact hh,hr⟩

theorem OwnT.block {base:Nat} {w:World} {a:Option Addr} {n cap:Nat} {ts:List ByteArray} (h:OwnT base w a n cap ts):∀ x,a=some x→n≠0→x.block<w.heap.size:=by
 intro x hx hn
 rcases h.2.2.2 with h0 | ⟨g,e,ho⟩
 ·exact absurd h0 hn
 ·rw [e] at hx
  cases hx
  exact (ho.lt g rfl).2


theorem ne_block {w:World} {B B' e e' s s' n n' c' X:Nat} {v:Value} {xs xs':List Value} (h:w.ownsRow B e s v n xs) (hX:w.ownsRow B' e' s' (.slice (some ⟨X,0,none⟩) n' c') n' xs') (he:e≠e'):v.ownBlock≠some X:=by
 rcases owns_ne h hX he with h0 | h0
 ·rw [h0];simp
 ·exact h0
theorem box_n (w:World) (v:Value) (t:TypeId) (B:Nat) (hB:B≤w.heap.size):(w.alloc (.cells #[v] t)).ownsRow B t 1 (.slice (some ⟨w.heap.size,0,none⟩) 1 1) 1 [v]:=World.ownsRow_lit w #[v] 1 hB (by unfold maxLen;omega) rfl
theorem flat_snoc (xs:List I3) (x:I3):flat (xs++[x])=flat xs++[.int .i64 x.1,.int .i64 x.2.1,.int .i64 x.2.2]:=by simp [flat,I3.cells]
theorem RowsOwn.grow {w w':World} {B k:Nat} {vs:List Value} {rows:List (List I3)} {x:I3} {o:Obj} {v':Value} (h:RowsOwn w B 3 vs rows) (h3:rows.length=3) (hv:vs.length=3) (hk:k<3)
  (hg:(w.alloc o).drew.grownBy w' (vs.getD k undef).ownBlock) (hn:w'.ownsRow B 122 3 v' ((rows.getD k []).length+1) (flat (rows.getD k []++[x])))
  (hat:v'.ownBlock=(vs.getD k undef).ownBlock∨v'.ownBlock=some (w.alloc o).drew.heap.size):RowsOwn w' B 3 (vs.set k v') (rows.set k (rows.getD k []++[x])):=by
 have hold:∀ t,t≠k→(vs.set k v').getD t undef=vs.getD t undef:=fun t ht=>by simp [List.getD,List.getElem?_set_ne (Ne.symm ht)]
 have hnew:(vs.set k v').getD k undef=v':=by simp [List.getD,show k<vs.length by omega]
 have hsz:(w.alloc o).drew.heap.size=w.heap.size+1:=by simp
 rw [hsz] at hat
 refine ⟨fun t ht=>?_,fun t t' ht ht' hne=>?_⟩
 ·by_cases e:t=k
  ·subst e
   rw [hnew,getD_set_same _ (by omega)]
   simpa using hn
  ·rw [hold t e,getD_set_other _ e]
   exact ((h.1 t ht).alloc o).drew.kept hg (h.2 t k ht hk e)
 ·by_cases e:t=k
  ·subst e
   rw [hnew,hold t' (Ne.symm hne)]
   rcases hat with hat | hat
   ·rw [hat];exact h.2 t t' ht ht' hne
   ·refine .inr fun h'=>?_
    rw [hat] at h'
    have:=((h.1 t' ht').lt _ h'.symm).2
    omega
  ·rw [hold t e]
   by_cases e':t'=k
   ·subst e'
    rw [hnew]
    rcases hat with hat | hat
    ·rw [hat];exact h.2 t t' ht ht' hne
    ·rcases hb:(vs.getD t undef).ownBlock with _ | y
     ·exact .inl rfl
     ·refine .inr fun h'=>?_
      rw [hat] at h'
      cases h'
      have:=((h.1 t ht).lt _ hb).2
      omega
   ·rw [hold t' e']
    exact h.2 t t' ht ht' hne

end Go.Proofs.YtgmhhegckcionaaGreatDoor
