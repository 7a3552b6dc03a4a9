/-
  Joined: Parse, Prog5, ProgL, ProgM, StrS, VmDraw.
-/
import Derived.Maps.AppendAt
import Derived.Laws.RangeString
import Derived.Laws.RangeAny
import Derived.Laws.Bits
import Derived.Lib.FieldsP
import Derived.Test.YtjgffnlmjmibgaaDoorN09
import Derived.Test.YtjgffnlmjmibgaaDoorN16

namespace Go.Proofs.YtjgffnlmjmibgaaDoor
set_option maxRecDepth 100000
set_option maxHeartbeats 16000000

def triples:List Int→List I3
 | a::b::c::r=>(a,b,c)::triples r
 | _=>[]

def parse:Nat→List Int→Option (List (List I3))
 | 0,[]=>some []
 | 0,_::_=>none
 | _+1,[]=>none
 | k+1,n::zs=>if (zs.length:Int)<3*n then none else (parse k (zs.drop (3*n.toNat))).map (triples (zs.take (3*n.toNat))::·)

def PState (zs:List Int) (k:Nat) (done:List (List I3)) (rest:List Int):Prop:=parse 3 zs=(parse (3 - k) rest).map (done++·)

theorem PState.fail {zs:List Int} {k:Nat} {done:List (List I3)} {rest:List Int} (h:PState zs k done rest) (hn:parse (3 - k) rest=none):parse 3 zs=none:=by
 rw [h,hn];rfl
theorem PState.empty {zs:List Int} {k:Nat} {done:List (List I3)} (h:PState zs k done []) (hk:k<3):parse 3 zs=none:=by
 refine h.fail ?_
 obtain ⟨j,hj⟩:∃ j,3 - k=j+1:=⟨3 - k - 1,by omega⟩
 rw [hj];rfl

open Go.RowKit

def RowsOwn (w:World) (B k:Nat) (vs:List Value) (rows:List (List I3)):Prop:=
 (∀ t,t<k→w.ownsRow B 103 3 (vs.getD t undef) (rows.getD t []).length (flat (rows.getD t []))) ∧
 ∀ t t',t<k→t'<k→t≠t'→(vs.getD t undef).ownBlock=none∨(vs.getD t undef).ownBlock≠(vs.getD t' undef).ownBlock

theorem RowsOwn.below {w w':World} {B k:Nat} {vs:List Value} {rows:List (List I3)} (h:RowsOwn w B k vs rows) (hb:Below w.heap.size w w'):RowsOwn w' B k vs rows:=⟨fun t ht=>owns_below (h.1 t ht) hb,h.2⟩

theorem RowsOwn.put {w w':World} {B P k G len:Nat} {vs:List Value} {rows:List (List I3)} (h:RowsOwn w B k vs rows) (hb:Below w.heap.size w w') (hk:k<vs.length) (hG:w.heap.size≤G)
  (hn:w'.ownsRow B 103 3 (.slice (some ⟨G,0,none⟩) len len) (rows.getD k []).length (flat (rows.getD k []))) (hP:P<w.heap.size) (hPn:∀ t,t<k→(vs.getD t undef).ownBlock≠some P) :
  RowsOwn (w'.setCell ⟨P,k,none⟩ (.slice (some ⟨G,0,none⟩) len len)) B (k+1) (vs.set k (.slice (some ⟨G,0,none⟩) len len)) rows:=by
 have hold:∀ t,t≠k→(vs.set k (.slice (some ⟨G,0,none⟩) len len)).getD t undef=vs.getD t undef:=fun t ht=>by simp [List.getD,List.getElem?_set_ne (Ne.symm ht)]
 have hnew:(vs.set k (.slice (some ⟨G,0,none⟩) len len)).getD k undef=.slice (some ⟨G,0,none⟩) len len:=by simp [List.getD,hk]
 refine ⟨fun t ht=>?_,fun t t' ht ht' hne=>?_⟩
 ·by_cases e:t=k
  ·subst e
   rw [hnew]
   exact ownsRow_setCell_other hn (by simp [Value.ownBlock];omega) _
  ·rw [hold t e]
   exact ownsRow_setCell_other (owns_below (h.1 t (by omega)) hb) (hPn t (by omega)) _
 ·by_cases e:t=k
  ·subst e
   rw [hnew,hold t' (Ne.symm hne)]
   refine .inr ?_
   simp only [Value.ownBlock,ne_eq]
   intro h'
   have:=((h.1 t' (by omega)).lt G h'.symm).2
   omega
  ·rw [hold t e]
   by_cases e':t'=k
   ·subst e'
    rw [hnew]
    rcases hbk:(vs.getD t undef).ownBlock with _ | x
    ·exact .inl rfl
    ·refine .inr ?_
     simp only [Value.ownBlock,ne_eq,Option.some.injEq]
     have:=((h.1 t (by omega)).lt x hbk).2
     omega
   ·rw [hold t' e']
    exact h.2 t t' (by omega) (by omega) hne

theorem OwnProg.low {w:World} {B:Nat} {v:Value} {rows:List (List I3)} (h:OwnProg w B v rows) {p:Addr} (hp:p.block<B) (u:Value):OwnProg (w.setCell p u) B v rows:=by
 obtain ⟨vs,h1,h2,h3,h4⟩:=h
 exact ⟨vs,ownsRow_setCell_below h1 hp _,h2,fun t ht=>ownsRow_setCell_below (h3 t ht) hp _,h4⟩


theorem owns_lower {w:World} {B B' e s n:Nat} {v:Value} {cs:List Value} (h:w.ownsRow B e s v n cs) (hB:B'≤B):w.ownsRow B' e s v n cs:=by
 refine ⟨h.1,?_⟩
 rcases h.2 with h0 | ⟨g,cap,cur,hv,hg,r⟩
 ·exact .inl h0
 ·exact .inr ⟨g,cap,cur,hv,by omega,r⟩


theorem RowsOwn.snoc {w w':World} {B P k G len:Nat} {vs:List Value} {done:List (List I3)} {r:List I3} (h:RowsOwn w B k vs done) (hd:done.length=k) (hb:Below w.heap.size w w') (hk:k<vs.length) (hG:w.heap.size≤G)
  (hn:w'.ownsRow B 103 3 (.slice (some ⟨G,0,none⟩) len len) r.length (flat r)) (hP:P<w.heap.size) (hPn:∀ t,t<k→(vs.getD t undef).ownBlock≠some P) :
  RowsOwn (w'.setCell ⟨P,k,none⟩ (.slice (some ⟨G,0,none⟩) len len)) B (k+1) (vs.set k (.slice (some ⟨G,0,none⟩) len len)) (done++[r]):=by
 have hold:∀ t,t<k→(done++[r]).getD t []=done.getD t []:=fun t ht=>by simp [List.getD,List.getElem?_append_left (show t<done.length by omega)]
 have hnew:(done++[r]).getD k []=r:=by subst hd;simp [List.getD]
 have h':RowsOwn w B k vs (done++[r]):=⟨fun t ht=>by rw [hold t ht];exact h.1 t ht,h.2⟩
 exact h'.put hb hk hG (by rw [hnew];exact hn) hP hPn

theorem OwnProg.lower {w:World} {B B':Nat} {v:Value} {rows:List (List I3)} (h:OwnProg w B v rows) (hB:B'≤B):OwnProg w B' v rows:=by
 obtain ⟨vs,h1,h2,h3,h4⟩:=h
 exact ⟨vs,owns_lower h1 hB,h2,fun t ht=>owns_lower (h3 t ht) hB,h4⟩


def Strs (w:World) (a:Option Addr) (len cap:Nat) (ts:List ByteArray):Prop:=
 ts.length=len∧len≤cap∧cap≤maxLen ∧
 (len=0∨∃ b off,a=some ⟨b,off,none⟩∧b<w.heap.size∧∀ t,t<len→w.cell? ⟨b,off+t,none⟩=some (.string (ts.getD t ByteArray.empty)))

theorem Strs.below {w w':World} {a:Option Addr} {len cap:Nat} {ts:List ByteArray} (h:Strs w a len cap ts) (hb:Below w.heap.size w w'):Strs w' a len cap ts:=by
 obtain ⟨h1,h2,h3,h4⟩:=h
 refine ⟨h1,h2,h3,?_⟩
 rcases h4 with h4 | ⟨b,off,ha,hlt,hc⟩
 ·exact .inl h4
 ·exact .inr ⟨b,off,ha,by have:=hb.size;omega,fun t ht=>by rw [hb.cell (p:=⟨b,off+t,none⟩) hlt];exact hc t ht⟩

def OwnT (base:Nat) (w:World) (a:Option Addr) (n cap:Nat) (ts:List ByteArray):Prop:=
 ts.length=n∧n≤cap∧cap≤maxLen∧(n=0∨∃ g,a=some ⟨g,0,none⟩∧w.ownsRow base 9 1 (.slice (some ⟨g,0,none⟩) n cap) n (ts.map Value.string))

theorem OwnT.strs {base:Nat} {w:World} {a:Option Addr} {n cap:Nat} {ts:List ByteArray} (h:OwnT base w a n cap ts):Strs w a n cap ts:=by
 obtain ⟨h1,h2,h3,h4⟩:=h
 refine ⟨h1,h2,h3,?_⟩
 rcases h4 with h4 | ⟨g,ha,h4⟩
 ·exact .inl h4
 ·refine .inr ⟨g,0,ha,(h4.lt g rfl).2,fun t ht=>?_⟩
  have:=h4.cellAt t (by simp;omega)
  rw [Nat.zero_add,this]
  simp [List.getElem?_eq_getElem (show t<ts.length by omega)]

theorem OwnT.of_owns {base:Nat} {w:World} {v:Value} {n:Nat} {ts:List ByteArray} (h:w.ownsRow base 9 1 v n (ts.map Value.string)):∃ a cap,v=.slice a n cap∧OwnT base w a n cap ts:=by
 have hl:ts.length=n:=by simpa using h.1
 rcases h.2 with ⟨h0,hn⟩ | ⟨g',cap',cur,hv,_,_,hn,hcap,_,_⟩
 ·subst hn
  exact ⟨none,0,h0,hl,Nat.le_refl _,by unfold maxLen;omega,.inl rfl⟩
 ·subst hv
  exact ⟨some ⟨g',0,none⟩,cap',rfl,hl,hn,hcap,.inr ⟨g',rfl,h⟩⟩

theorem OwnT.kept {base:Nat} {w w':World} {a:Option Addr} {n cap:Nat} {ts:List ByteArray} (h:OwnT base w a n cap ts) (hb:Below w.heap.size w w'):OwnT base w' a n cap ts:=by
 obtain ⟨h1,h2,h3,h4⟩:=h
 refine ⟨h1,h2,h3,?_⟩
 rcases h4 with h4 | ⟨g,ha,h4⟩
 ·exact .inl h4
 ·refine .inr ⟨g,ha,h4.1,?_⟩
  have hlt:=(h4.lt g rfl).2
  rcases h4.2 with h0 | ⟨g',cap',cur,hv,hg,hh,hr⟩
  ·exact .inl h0
  ·cases hv
   exact .inr ⟨g,cap,cur,rfl,hg,by rw [hb.block _ hlt];exact hh,hr⟩

theorem OwnT.block {base:Nat} {w:World} {a:Option Addr} {n cap:Nat} {ts:List ByteArray} (h:OwnT base w a n cap ts):∀ x,a=some x→n≠0→x.block<w.heap.size:=by
 intro x hx hn
 rcases h.2.2.2 with h0 | ⟨g,e,ho⟩
 ·exact absurd h0 hn
 ·rw [e] at hx
  cases hx
  exact (ho.lt g rfl).2

set_option linter.unusedVariables false
set_option linter.unusedSimpArgs false

theorem OwnV.lowerB {B B':Nat} {w:World} {s:S4} {m:V4} (h:OwnV w B s m) (hB:B'≤B):OwnV w B' s m:=⟨⟨own_lower h.1.1 hB,own_lower h.1.2.1 hB,own_lower h.1.2.2.1 hB,own_lower h.1.2.2.2 hB⟩,h.2⟩
theorem zero_shape:shapeOk zeroV=true:=by decide
def vmC (t:S4):List Value:=[.slice t.1.1 t.1.2.1 t.1.2.2,.slice t.2.1.1 t.2.1.2.1 t.2.1.2.2,.slice t.2.2.1.1 t.2.2.1.2.1 t.2.2.1.2.2,.slice t.2.2.2.1 t.2.2.2.2.1 t.2.2.2.2.2]
theorem step_store_blkD {P:Program} {ops:Array Oper} {o:Oper} {a:Act} {w:World} {K:Act→World→Prop} {Q:Exit→Act→World→Prop} {E:Prop} (hgd:o.guard=none) (ty:TypeId) (x y:Operand) (ho:o.op=.store ty x y) (g:Nat) (vs:List Value) (hx:a.eval x=.pointer (some ⟨g,0,none⟩)) (hy:a.eval y=.agg vs.toArray) {t:Nat} {cs:List Value} (hB:Blk w g t cs)
  (hi:(P.info? ty).map (·.size)=some vs.length) (hl:cs.length=vs.length) (h1:vs.all (·.oneCell')=true)
  (h:∀ w',Hid (Blk w' g t vs)→w.grownBy w' (some g)→K (a.put o.dst undef) w'):if Region.wanted o (yielded ops a.tmps)=true then Oper.wp P o a w K Q else E:=by
 have hw:Region.wanted o (yielded ops a.tmps)=true:=by simp [Region.wanted,hgd]
 rw [if_pos hw]
 exact wp_store_row ty x y ho g vs.toArray hx hy t cs.toArray hB (by simpa using hi) (by simpa using hl) (by simpa using h1) (h _ (blk_setRow vs hB) (grown_setRow _ _ _))
end Go.Proofs.YtjgffnlmjmibgaaDoor
