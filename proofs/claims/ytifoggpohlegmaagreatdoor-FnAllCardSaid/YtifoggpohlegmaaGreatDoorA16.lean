/-
  Joined: StrS, RpM, DrawP, VmDraw.
-/
import Derived.Test.YtifoggpohlegmaaGreatDoorA14
import Derived.Test.YtifoggpohlegmaaGreatDoorA15

namespace Go.Proofs.YtifoggpohlegmaaGreatDoor
set_option maxRecDepth 100000
set_option maxHeartbeats 16000000
open Go.RowKit

def Strs (w:World) (a:Option Addr) (len cap:Nat) (ts:List ByteArray):Prop:=
 ts.length=len∧len≤cap∧cap≤maxLen ∧
 (len=0∨∃ b off,a=some ⟨b,off,none⟩∧b<w.heap.size∧∀ t,t<len→w.cell? ⟨b,off+t,none⟩=some (.string (ts.getD t ByteArray.empty)))

theorem Strs.below {w w':World} {a:Option Addr} {len cap:Nat} {ts:List ByteArray} (h:Strs w a len cap ts) (hb:Below w.heap.size w w'):Strs w' a len cap ts:=by
 obtain ⟨h1,h2,h3,h4⟩:=h
 refine ⟨h1,h2,h3,?_⟩
 rcases h4 with h4 | ⟨b,off,ha,hlt,hc⟩
 ·exact .inl h4
 ·exact .inr ⟨b,off,ha,by have:=hb.size;omega,fun t ht=>by rw [hb.cell (p:=⟨b,off+t,none⟩) hlt];exact hc t ht⟩

def OwnT (base:Nat) (w:World) (a:Option Addr) (n cap:Nat) (ts:List ByteArray):Prop:=
 ts.length=n∧n≤cap∧cap≤maxLen∧(n=0∨∃ g,a=some ⟨g,0,none⟩∧w.ownsRow base 9 1 (.slice (some ⟨g,0,none⟩) n cap) n (ts.map Value.string))

theorem OwnT.strs {base:Nat} {w:World} {a:Option Addr} {n cap:Nat} {ts:List ByteArray} (h:OwnT base w a n cap ts):Strs w a n cap ts:=by
 obtain ⟨h1,h2,h3,h4⟩:=h
 refine ⟨h1,h2,h3,?_⟩
 rcases h4 with h4 | ⟨g,ha,h4⟩
 ·exact .inl h4
 ·refine .inr ⟨g,0,ha,(h4.lt g rfl).2,fun t ht=>?_⟩
  have:=h4.cellAt t (by simp;omega)
  rw [Nat.zero_add,this]
  simp [List.getElem?_eq_getElem (show t<ts.length by omega)]

theorem OwnT.of_owns {base:Nat} {w:World} {v:Value} {n:Nat} {ts:List ByteArray} (h:w.ownsRow base 9 1 v n (ts.map Value.string)):∃ a cap,v=.slice a n cap∧OwnT base w a n cap ts:=by
 have hl:ts.length=n:=by simpa using h.1
 rcases h.2 with ⟨h0,hn⟩ | ⟨g',cap',cur,hv,_,_,hn,hcap,_,_⟩
 ·subst hn
  exact ⟨none,0,h0,hl,Nat.le_refl _,by unfold maxLen;omega,.inl rfl⟩
 ·subst hv
  exact ⟨some ⟨g',0,none⟩,cap',rfl,hl,hn,hcap,.inr ⟨g',rfl,h⟩⟩

theorem OwnT.kept {base:Nat} {w w':World} {a:Option Addr} {n cap:Nat} {ts:List ByteArray} (h:OwnT base w a n cap ts) (hb:Below w.heap.size w w'):OwnT base w' a n cap ts:=by
 obtain ⟨h1,h2,h3,h4⟩:=h
 refine ⟨h1,h2,h3,?_⟩
 rcases h4 with h4 | ⟨g,ha,h4⟩
 ·exact .inl h4
 ·refine .inr ⟨g,ha,h4.1,?_⟩
  have hlt:=(h4.lt g rfl).2
  rcases h4.2 with h0 | ⟨g',cap',cur,hv,hg,hh,hr⟩
  ·exact .inl h0
  ·cases hv
   exact .inr ⟨g,cap,cur,rfl,hg,by rw [hb.block _ hlt];exact hh,hr⟩

theorem OwnT.block {base:Nat} {w:World} {a:Option Addr} {n cap:Nat} {ts:List ByteArray} (h:OwnT base w a n cap ts):∀ x,a=some x→n≠0→x.block<w.heap.size:=by
 intro x hx hn
 rcases h.2.2.2 with h0 | ⟨g,e,ho⟩
 ·exact absurd h0 hn
 ·rw [e] at hx
  cases hx
  exact (ho.lt g rfl).2


theorem ne_block {w:World} {B B' e e' s s' n n' c' X:Nat} {v:Value} {xs xs':List Value} (h:w.ownsRow B e s v n xs) (hX:w.ownsRow B' e' s' (.slice (some ⟨X,0,none⟩) n' c') n' xs') (he:e≠e'):v.ownBlock≠some X:=by
 rcases owns_ne h hX he with h0 | h0
 ·rw [h0];simp
 ·exact h0
theorem box_n (w:World) (v:Value) (t:TypeId) (B:Nat) (hB:B≤w.heap.size):(w.alloc (.cells #[v] t)).ownsRow B t 1 (.slice (some ⟨w.heap.size,0,none⟩) 1 1) 1 [v]:=World.ownsRow_lit w #[v] 1 hB (by unfold maxLen;omega) rfl
theorem flat_snoc (xs:List I3) (x:I3):flat (xs++[x])=flat xs++[.int .i64 x.1,.int .i64 x.2.1,.int .i64 x.2.2]:=by simp [flat,I3.cells]


def okTo (nn:Nat) (xs:List I3):Prop:=∀ i,i<xs.length→okI (xs.getD i (0,0,0))=true∧DrawnAt (xs.getD i (0,0,0)) i nn
theorem okTo_snoc {nn:Nat} {xs:List I3} {x:I3} (h:okTo nn xs) (h1:okI x=true) (h2:DrawnAt x xs.length nn):okTo nn (xs++[x]):=by
 intro i hi
 by_cases e:i=xs.length
 ·subst e
  simpa [List.getD] using ⟨h1,h2⟩
 ·have hi':i<xs.length:=by simp at hi;omega
  have:=h i hi'
  have e2:(xs++[x]).getD i (0,0,0)=xs.getD i (0,0,0):=by simp [List.getD,List.getElem?_append_left hi']
  rw [e2]
  exact this
theorem okFrom_of {n:Nat}:∀ (k:Nat) (xs:List I3),(∀ i,i<xs.length→okI (xs.getD i (0,0,0))=true∧DrawnAt (xs.getD i (0,0,0)) (k+i) n)→okFrom n k xs=true
 | _,[],_=>rfl
 | k,x::xs,h=>by
  have h0:=h 0 (by simp)
  simp at h0
  have hl:leads x k n=true:=by
   unfold leads
   split
   ·rename_i e
    have:=h0.2 e
    exact inB_true.2 this
   ·rfl
  have ih:=okFrom_of (n:=n) (k+1) xs (fun i hi=>by
   have:=h (i+1) (by simp;omega)
   rw [List.getD_cons_succ] at this
   rwa [show k+(i+1)=k+1+i by omega] at this)
  simp [okFrom,h0.1,hl,ih]
theorem codeOk_of {xs:List I3} (hl:xs.length≤6) (h:okTo xs.length xs):codeOk xs=true:=by
 unfold codeOk
 have:=okFrom_of (n:=xs.length) 0 xs (fun i hi=>by simpa using h i hi)
 simp [hl,this]
theorem progOk_of {rows:List (List I3)} (h3:rows.length=3) (h:∀ r ∈ rows,codeOk r=true):progOk rows=true:=by
 unfold progOk
 simp [h3]
 exact h
theorem RowsOwn.went {p:Nat} {w w':World} {B k:Nat} {vs:List Value} {rows:List (List I3)} (h:RowsOwn w B k vs rows) (hw:Went p w w') (hp:p<B):RowsOwn w' B k vs rows:=⟨fun t ht=>owns_wn (h.1 t ht) hw hp,h.2⟩
theorem RowsOwn.push' {w:World} {B k s0:Nat} {vs:List Value} {sv:Value} {done:List (List I3)} {r:List I3} (h:RowsOwn w B k vs done) (hv:vs.length=k) (hd:done.length=k) (hlow:∀ t x,t<k→(vs.getD t undef).ownBlock=some x→x<s0)
  (hn:w.ownsRow s0 159 3 sv r.length (flat r)) (hB:B≤s0):RowsOwn w B (k+1) (vs++[sv]) (done++[r]):=by
 have hold:∀ t,t<k→(done++[r]).getD t []=done.getD t []:=fun t ht=>by simp [List.getD,List.getElem?_append_left (show t<done.length by omega)]
 have hnew:(done++[r]).getD k []=r:=by subst hd;simp [List.getD]
 have hvold:∀ t,t<k→(vs++[sv]).getD t undef=vs.getD t undef:=fun t ht=>by simp [List.getD,List.getElem?_append_left (show t<vs.length by omega)]
 have hvnew:(vs++[sv]).getD k undef=sv:=by subst hv;simp [List.getD]
 refine ⟨fun t ht=>?_,fun t t' ht ht' hne=>?_⟩
 ·by_cases e:t=k
  ·subst e
   rw [hnew,hvnew]
   exact owns_lower hn hB
  ·rw [hold t (by omega),hvold t (by omega)]
   exact h.1 t (by omega)
 ·by_cases e:t=k
  ·subst e
   rw [hvnew,hvold t' (by omega)]
   rcases hb:sv.ownBlock with _ | x
   ·exact .inl rfl
   ·refine .inr fun h'=>?_
    have h1:=(hn.lt x hb).1
    have h2:=hlow t' x (by omega) h'.symm
    omega
  ·rw [hvold t (by omega)]
   by_cases e':t'=k
   ·subst e'
    rw [hvnew]
    rcases hb:(vs.getD t undef).ownBlock with _ | x
    ·exact .inl rfl
    ·refine .inr fun h'=>?_
     have h1:=(hn.lt x h'.symm).1
     have h2:=hlow t x (by omega) hb
     omega
   ·rw [hvold t' (by omega)]
    exact h.2 t t' (by omega) (by omega) hne
theorem one_slv (a:Option Addr) (n c:Nat):∀ u ∈ [Value.slice a n c],u.oneCell'=true:=by intro u hu;simp at hu;subst hu;rfl
theorem one_cell_v (w:World) (x:Value) (t:TypeId):∀ j u,[x][j]?=some u→(w.alloc (.cells #[x] t)).cell? ((⟨w.heap.size,0,none⟩:Addr).add j)=some u:=by
 intro j u hj
 match j,hj with
 | 0,hj=>simp at hj;subst hj;simp [Addr.add]
 | (j+1),hj=>simp at hj
theorem empty_n (w:World) (t s B:Nat) (hB:B≤w.heap.size):(w.alloc (.cells #[] t)).ownsRow B t s (.slice (some ⟨w.heap.size,0,none⟩) 0 0) 0 []:=World.ownsRow_lit w #[] 0 hB (by unfold maxLen;omega) (by simp)

theorem owns_belowp {B e k n p:Nat} {v:Value} {xs:List Value} {w w':World} (h:w.ownsRow B e k v n xs) (hb:Below p w w') (hlt:∀ x,v.ownBlock=some x→x<p):w'.ownsRow B e k v n xs:=by
 refine ⟨h.1,?_⟩
 rcases h.2 with h0 | ⟨g,cap,cur,hv,hB,hg,rest⟩
 ·exact .inl h0
 ·exact .inr ⟨g,cap,cur,hv,hB,by rw [hb.block g (hlt g (by rw [hv];rfl))];exact hg,rest⟩

set_option linter.unusedVariables false
set_option linter.unusedSimpArgs false

theorem Went.of_below {p:Nat} {w w':World} (h:Below w.heap.size w w'):Went p w w':=⟨h.os,h.tape,h.output,h.size,fun k hk _=>h.block k hk⟩
theorem Blk.went {p g t:Nat} {w w':World} {cs:List Value} (h:Blk w g t cs) (hw:Went p w w') (hne:g≠p):Blk w' g t cs:=h.kept hw (fun e=>hne (by cases e;rfl))
theorem OwnV.went {p B:Nat} {w w':World} {s:S4} {m:V4} (h:OwnV w B s m) (hw:Went p w w') (hp:p<B):OwnV w' B s m:=⟨⟨owns_wn h.1.1 hw hp,owns_wn h.1.2.1 hw hp,owns_wn h.1.2.2.1 hw hp,owns_wn h.1.2.2.2 hw hp⟩,h.2⟩
theorem OwnI.went {p B:Nat} {w w':World} {s:Sl} {zs:List Int} (h:OwnI w B s zs) (hw:Went p w w') (hp:p<B):OwnI w' B s zs:=owns_wn h hw hp
theorem OwnV.lowerB {B B':Nat} {w:World} {s:S4} {m:V4} (h:OwnV w B s m) (hB:B'≤B):OwnV w B' s m:=⟨⟨own_lower h.1.1 hB,own_lower h.1.2.1 hB,own_lower h.1.2.2.1 hB,own_lower h.1.2.2.2 hB⟩,h.2⟩
theorem Src.belowD {p T:Nat} {c:Value} {w w':World} (h:Src w p c T) (hb:Below w.heap.size w w'):Src w' p c T:=h.grown (row:=none) ⟨hb.os,hb.tape,hb.output,hb.size,fun k hk _=>hb.block k hk⟩ (fun k e=>by cases e)
theorem zero_shape:shapeOk zeroV=true:=by decide
def vmC (t:S4):List Value:=[.slice t.1.1 t.1.2.1 t.1.2.2,.slice t.2.1.1 t.2.1.2.1 t.2.1.2.2,.slice t.2.2.1.1 t.2.2.1.2.1 t.2.2.1.2.2,.slice t.2.2.2.1 t.2.2.2.2.1 t.2.2.2.2.2]
theorem step_store_blkD {P:Program} {ops:Array Oper} {o:Oper} {a:Act} {w:World} {K:Act→World→Prop} {Q:Exit→Act→World→Prop} {E:Prop} (hgd:o.guard=none) (ty:TypeId) (x y:Operand) (ho:o.op=.store ty x y) (g:Nat) (vs:List Value) (hx:a.eval x=.pointer (some ⟨g,0,none⟩)) (hy:a.eval y=.agg vs.toArray) {t:Nat} {cs:List Value} (hB:Blk w g t cs)
  (hi:(P.info? ty).map (·.size)=some vs.length) (hl:cs.length=vs.length) (h1:vs.all (·.oneCell')=true)
  (h:∀ w',Hid (Blk w' g t vs)→w.grownBy w' (some g)→K (a.put o.dst undef) w'):if Region.wanted o (yielded ops a.tmps)=true then Oper.wp P o a w K Q else E:=by
 have hw:Region.wanted o (yielded ops a.tmps)=true:=by simp [Region.wanted,hgd]
 rw [if_pos hw]
 exact wp_store_row ty x y ho g vs.toArray hx hy t cs.toArray hB (by simpa using hi) (by simpa using hl) (by simpa using h1) (h _ (blk_setRow vs hB) (grown_setRow _ _ _))
end Go.Proofs.YtifoggpohlegmaaGreatDoor
