/-
  Joined: RpM, DrawP.
-/
import Derived.Lib.FieldsP
import Derived.Test.YtifoggpohlegmaaGreatDoorF15
import Derived.Test.YtifoggpohlegmaaGreatDoorF17
import Derived.Test.YtifoggpohlegmaaGreatDoorF20

namespace Go.Proofs.YtifoggpohlegmaaGreatDoor
set_option maxRecDepth 100000
set_option maxHeartbeats 16000000
open Go.RowKit

theorem ne_block {w:World} {B B' e e' s s' n n' c' X:Nat} {v:Value} {xs xs':List Value} (h:w.ownsRow B e s v n xs) (hX:w.ownsRow B' e' s' (.slice (some ⟨X,0,none⟩) n' c') n' xs') (he:e≠e'):v.ownBlock≠some X:=by
 rcases owns_ne h hX he with h0 | h0
 ·rw [h0];simp
 ·exact h0
theorem box_n (w:World) (v:Value) (t:TypeId) (B:Nat) (hB:B≤w.heap.size):(w.alloc (.cells #[v] t)).ownsRow B t 1 (.slice (some ⟨w.heap.size,0,none⟩) 1 1) 1 [v]:=World.ownsRow_lit w #[v] 1 hB (by unfold maxLen;omega) rfl
theorem flat_snoc (xs:List I3) (x:I3):flat (xs++[x])=flat xs++[.int .i64 x.1,.int .i64 x.2.1,.int .i64 x.2.2]:=by simp [flat,I3.cells]


def okTo (nn:Nat) (xs:List I3):Prop:=∀ i,i<xs.length→okI (xs.getD i (0,0,0))=true∧DrawnAt (xs.getD i (0,0,0)) i nn
theorem okTo_snoc {nn:Nat} {xs:List I3} {x:I3} (h:okTo nn xs) (h1:okI x=true) (h2:DrawnAt x xs.length nn):okTo nn (xs++[x]):=by
 intro i hi
 by_cases e:i=xs.length
 ·subst e
  simpa [List.getD] using ⟨h1,h2⟩
 ·have hi':i<xs.length:=by simp at hi;omega
  have:=h i hi'
  have e2:(xs++[x]).getD i (0,0,0)=xs.getD i (0,0,0):=by simp [List.getD,List.getElem?_append_left hi']
  rw [e2]
  exact this
theorem okFrom_of {n:Nat}:∀ (k:Nat) (xs:List I3),(∀ i,i<xs.length→okI (xs.getD i (0,0,0))=true∧DrawnAt (xs.getD i (0,0,0)) (k+i) n)→okFrom n k xs=true
 | _,[],_=>rfl
 | k,x::xs,h=>by
  have h0:=h 0 (by simp)
  simp at h0
  have hl:leads x k n=true:=by
   unfold leads
   split
   ·rename_i e
    have:=h0.2 e
    exact inB_true.2 this
   ·rfl
  have ih:=okFrom_of (n:=n) (k+1) xs (fun i hi=>by
   have:=h (i+1) (by simp;omega)
   rw [List.getD_cons_succ] at this
   rwa [show k+(i+1)=k+1+i by omega] at this)
  simp [okFrom,h0.1,hl,ih]
theorem codeOk_of {xs:List I3} (hl:xs.length≤6) (h:okTo xs.length xs):codeOk xs=true:=by
 unfold codeOk
 have:=okFrom_of (n:=xs.length) 0 xs (fun i hi=>by simpa using h i hi)
 simp [hl,this]
theorem progOk_of {rows:List (List I3)} (h3:rows.length=3) (h:∀ r ∈ rows,codeOk r=true):progOk rows=true:=by
 unfold progOk
 simp [h3]
 exact h
theorem RowsOwn.went {p:Nat} {w w':World} {B k:Nat} {vs:List Value} {rows:List (List I3)} (h:RowsOwn w B k vs rows) (hw:Went p w w') (hp:p<B):RowsOwn w' B k vs rows:=⟨fun t ht=>owns_wn (h.1 t ht) hw hp,h.2⟩
theorem RowsOwn.push' {w:World} {B k s0:Nat} {vs:List Value} {sv:Value} {done:List (List I3)} {r:List I3} (h:RowsOwn w B k vs done) (hv:vs.length=k) (hd:done.length=k) (hlow:∀ t x,t<k→(vs.getD t undef).ownBlock=some x→x<s0)
  (hn:w.ownsRow s0 159 3 sv r.length (flat r)) (hB:B≤s0):RowsOwn w B (k+1) (vs++[sv]) (done++[r]):=by
 have hold:∀ t,t<k→(done++[r]).getD t []=done.getD t []:=fun t ht=>by simp [List.getD,List.getElem?_append_left (show t<done.length by omega)]
 have hnew:(done++[r]).getD k []=r:=by subst hd;simp [List.getD]
 have hvold:∀ t,t<k→(vs++[sv]).getD t undef=vs.getD t undef:=fun t ht=>by simp [List.getD,List.getElem?_append_left (show t<vs.length by omega)]
 have hvnew:(vs++[sv]).getD k undef=sv:=by subst hv;simp [List.getD]
 refine ⟨fun t ht=>?_,fun t t' ht ht' hne=>?_⟩
 ·by_cases e:t=k
  ·subst e
   rw [hnew,hvnew]
   exact owns_lower hn hB
  ·rw [hold t (by omega),hvold t (by omega)]
   exact h.1 t (by omega)
 ·by_cases e:t=k
  ·subst e
   rw [hvnew,hvold t' (by omega)]
   rcases hb:sv.ownBlock with _ | x
   ·exact .inl rfl
   ·refine .inr fun h'=>?_
    have h1:=(hn.lt x hb).1
    have h2:=hlow t' x (by omega) h'.symm
    omega
  ·rw [hvold t (by omega)]
   by_cases e':t'=k
   ·subst e'
    rw [hvnew]
    rcases hb:(vs.getD t undef).ownBlock with _ | x
    ·exact .inl rfl
    ·refine .inr fun h'=>?_
     have h1:=(hn.lt x h'.symm).1
     have h2:=hlow t x (by omega) hb
     omega
   ·rw [hvold t' (by omega)]
    exact h.2 t t' (by omega) (by omega) hne
theorem one_slv (a:Option Addr) (n c:Nat):∀ u ∈ [Value.slice a n c],u.oneCell'=true:=by intro u hu;simp at hu;subst hu;rfl
theorem one_cell_v (w:World) (x:Value) (t:TypeId):∀ j u,[x][j]?=some u→(w.alloc (.cells #[x] t)).cell? ((⟨w.heap.size,0,none⟩:Addr).add j)=some u:=by
 intro j u hj
 match j,hj with
 | 0,hj=>simp at hj;subst hj;simp [Addr.add]
 | (j+1),hj=>simp at hj
theorem empty_n (w:World) (t s B:Nat) (hB:B≤w.heap.size):(w.alloc (.cells #[] t)).ownsRow B t s (.slice (some ⟨w.heap.size,0,none⟩) 0 0) 0 []:=World.ownsRow_lit w #[] 0 hB (by unfold maxLen;omega) (by simp)

theorem owns_belowp {B e k n p:Nat} {v:Value} {xs:List Value} {w w':World} (h:w.ownsRow B e k v n xs) (hb:Below p w w') (hlt:∀ x,v.ownBlock=some x→x<p):w'.ownsRow B e k v n xs:=by
 refine ⟨h.1,?_⟩
 rcases h.2 with h0 | ⟨g,cap,cur,hv,hB,hg,rest⟩
 ·exact .inl h0
 ·exact .inr ⟨g,cap,cur,hv,hB,by rw [hb.block g (hlt g (by rw [hv];rfl))];exact hg,rest⟩

end Go.Proofs.YtifoggpohlegmaaGreatDoor
