/-
  Joined: Take, RpP, Prog5, ProgL, ProgM, RpM, DrawP, VmDraw.
-/
import Derived.Laws.RangeString
import Derived.Laws.RangeAny
import Derived.Laws.Bits
import Derived.Lib.FieldsP
import Derived.Maps.AppendAt
import Derived.Test.YtgmhhegckcionaaGreatDoorF11
import Derived.Test.YtgmhhegckcionaaGreatDoorF17

namespace Go.Proofs.YtgmhhegckcionaaGreatDoor
set_option maxRecDepth 100000
set_option maxHeartbeats 16000000

def bt (s:ByteArray) (k:Nat):Nat:=if h:k<s.size then (s[k]'h).toNat else 0
def val (s:ByteArray) (p:Nat):Nat→Nat
 | 0=>0
 | 1=>bt s p % 128
 | 2=>bt s p % 128+bt s (p+1) % 128*128
 | 3=>bt s p % 128+bt s (p+1) % 128*128+bt s (p+2) % 128*16384
 | 4=>bt s p % 128+bt s (p+1) % 128*128+bt s (p+2) % 128*16384+bt s (p+3) % 128*2097152
 | _=>bt s p % 128+bt s (p+1) % 128*128+bt s (p+2) % 128*16384+bt s (p+3) % 128*2097152+bt s (p+4) % 128*268435456

def hv (s:ByteArray) (p k:Nat):Nat→Nat
 | 0=>0
 | j+1=>hv s p k j*128+bt s (p+k - 1 - j) % 128

open Go.RowKit

theorem FP {x:I3} (h:okI x=true):I3.fits x:=by
 obtain ⟨h0,h1,h2⟩:=Gl h
 have wf:∀ z:Int,0≤z∧z≤9→(Lit.int .i64 z).wf=true:=fun z hz=>by
  simp [Lit.wf,IntKind.min,IntKind.max,IntKind.signed,IntKind.bits]
  omega
 exact ⟨wf _ h0,wf _ h1,wf _ h2⟩


def Wo (w:World) (B k:Nat) (vs:List Value) (rows:List (List I3)):Prop:=
 (∀ t,t<k→w.ownsRow B 122 3 (vs.getD t undef) (rows.getD t []).length (Zn (rows.getD t []))) ∧
 ∀ t t',t<k→t'<k→t≠t'→(vs.getD t undef).ownBlock=none∨(vs.getD t undef).ownBlock≠(vs.getD t' undef).ownBlock

theorem Xb.low {w:World} {B:Nat} {v:Value} {rows:List (List I3)} (h:Xb w B v rows) {p:Addr} (hp:p.block<B) (u:Value):Xb (w.setCell p u) B v rows:=by
 obtain ⟨vs,h1,h2,h3,h4⟩:=h
 exact ⟨vs,ownsRow_setCell_below h1 hp _,h2,fun t ht=>ownsRow_setCell_below (h3 t ht) hp _,h4⟩


theorem T8 {w:World} {B B' e s n:Nat} {v:Value} {cs:List Value} (h:w.ownsRow B e s v n cs) (hB:B'≤B):w.ownsRow B' e s v n cs:=by
 refine ⟨h.1,?_⟩
 rcases h.2 with h0 | ⟨g,cap,cur,hv,hg,r⟩
 ·exact .inl h0
 exact .inr ⟨g,cap,cur,hv,by omega,r⟩


theorem Xb.lower {w:World} {B B':Nat} {v:Value} {rows:List (List I3)} (h:Xb w B v rows) (hB:B'≤B):Xb w B' v rows:=by
 obtain ⟨vs,h1,h2,h3,h4⟩:=h
 exact ⟨vs,T8 h1 hB,h2,fun t ht=>T8 (h3 t ht) hB,h4⟩


theorem Uh {w:World} {B B' e e' s s' n n' c' X:Nat} {v:Value} {xs xs':List Value} (h:w.ownsRow B e s v n xs) (hX:w.ownsRow B' e' s' (.slice (some ⟨X,0,none⟩) n' c') n' xs') (he:e≠e'):v.ownBlock≠some X:=by
 rcases Ys h hX he with h0 | h0
 ·rw [h0];simp
 exact h0
theorem Fe (w:World) (v:Value) (t:TypeId) (B:Nat) (hB:B≤w.heap.size):(w.alloc (.cells #[v] t)).ownsRow B t 1 (.slice (some ⟨w.heap.size,0,none⟩) 1 1) 1 [v]:=World.ownsRow_lit w #[v] 1 hB (by unfold maxLen;omega) rfl
theorem PR (xs:List I3) (x:I3):Zn (xs++[x])=Zn xs++[.int .i64 x.1,.int .i64 x.2.1,.int .i64 x.2.2]:=by simp [Zn,I3.cells]


def KC (nn:Nat) (xs:List I3):Prop:=∀ i,i<xs.length→okI (xs.getD i (0,0,0))=true∧Tz (xs.getD i (0,0,0)) i nn
theorem Nl {nn:Nat} {xs:List I3} {x:I3} (h:KC nn xs) (h1:okI x=true) (h2:Tz x xs.length nn):KC nn (xs++[x]):=by
 intro i hi
 by_cases e:i=xs.length
 ·subst e
  simpa [List.getD] using ⟨h1,h2⟩
 have hi':i<xs.length:=by simp at hi;omega
 have:=h i hi'
 have e2:(xs++[x]).getD i (0,0,0)=xs.getD i (0,0,0):=by simp [List.getD,List.getElem?_append_left hi']
 rw [e2]
 exact this
theorem Nj {n:Nat}:∀ (k:Nat) (xs:List I3),(∀ i,i<xs.length→okI (xs.getD i (0,0,0))=true∧Tz (xs.getD i (0,0,0)) (k+i) n)→Z4 n k xs=true
 | _,[],_=>rfl
 | k,x::xs,h=>by
  have h0:=h 0 (by simp)
  simp at h0
  have hl:WY x k n=true:=by
   unfold WY
   split
   ·rename_i e
    have:=h0.2 e
    exact ZD.2 this
   rfl
  have ih:=Nj (n:=n) (k+1) xs (fun i hi=>by
   have:=h (i+1) (by simp;omega)
   rw [List.getD_cons_succ] at this
   rwa [show k+(i+1)=k+1+i by omega] at this)
  simp [Z4,h0.1,hl,ih]
theorem PJ {xs:List I3} (hl:xs.length≤6) (h:KC xs.length xs):ZP xs=true:=by
 unfold ZP
 have:=Nj (n:=xs.length) 0 xs (fun i hi=>by simpa using h i hi)
 simp [hl,this]
theorem Gt {rows:List (List I3)} (h3:rows.length=3) (h:∀ r ∈ rows,ZP r=true):Zf rows=true:=by
 unfold Zf
 simp [h3]
 exact h
theorem Wo.went {p:Nat} {w w':World} {B k:Nat} {vs:List Value} {rows:List (List I3)} (h:Wo w B k vs rows) (hw:YG p w w') (hp:p<B):Wo w' B k vs rows:=⟨fun t ht=>ZI (h.1 t ht) hw hp,h.2⟩
theorem Wo.push' {w:World} {B k s0:Nat} {vs:List Value} {sv:Value} {done:List (List I3)} {r:List I3} (h:Wo w B k vs done) (hv:vs.length=k) (hd:done.length=k) (hlow:∀ t x,t<k→(vs.getD t undef).ownBlock=some x→x<s0)
  (hn:w.ownsRow s0 122 3 sv r.length (Zn r)) (hB:B≤s0):Wo w B (k+1) (vs++[sv]) (done++[r]):=by
 have hold:∀ t,t<k→(done++[r]).getD t []=done.getD t []:=fun t ht=>by simp [List.getD,List.getElem?_append_left (show t<done.length by omega)]
 have hnew:(done++[r]).getD k []=r:=by subst hd;simp [List.getD]
 have hvold:∀ t,t<k→(vs++[sv]).getD t undef=vs.getD t undef:=fun t ht=>by simp [List.getD,List.getElem?_append_left (show t<vs.length by omega)]
 have hvnew:(vs++[sv]).getD k undef=sv:=by subst hv;simp [List.getD]
 refine ⟨fun t ht=>?_,fun t t' ht ht' hne=>?_⟩
 ·by_cases e:t=k
  ·subst e
   rw [hnew,hvnew]
   exact T8 hn hB
  rw [hold t (by omega),hvold t (by omega)]
  exact h.1 t (by omega)
 by_cases e:t=k
 ·subst e
  rw [hvnew,hvold t' (by omega)]
  rcases hb:sv.ownBlock with _ | x
  ·exact .inl rfl
  refine .inr fun h'=>?_
  have h1:=(hn.lt x hb).1
  have h2:=hlow t' x (by omega) h'.symm
  omega
 rw [hvold t (by omega)]
 by_cases e':t'=k
 ·subst e'
  rw [hvnew]
  rcases hb:(vs.getD t undef).ownBlock with _ | x
  ·exact .inl rfl
  refine .inr fun h'=>?_
  have h1:=(hn.lt x h'.symm).1
  have h2:=hlow t x (by omega) hb
  omega
 rw [hvold t' (by omega)]
 exact h.2 t t' (by omega) (by omega) hne
theorem Jp (a:Option Addr) (n c:Nat):∀ u ∈ [Value.slice a n c],u.oneCell'=true:=by intro u hu;simp at hu;subst hu;rfl
theorem QS (w:World) (x:Value) (t:TypeId):∀ j u,[x][j]?=some u→(w.alloc (.cells #[x] t)).cell? ((⟨w.heap.size,0,none⟩:Addr).add j)=some u:=by
 intro j u hj
 match j,hj with
 | 0,hj=>simp at hj;subst hj;simp [Addr.add]
 | (j+1),hj=>simp at hj
theorem NW (w:World) (t s B:Nat) (hB:B≤w.heap.size):(w.alloc (.cells #[] t)).ownsRow B t s (.slice (some ⟨w.heap.size,0,none⟩) 0 0) 0 []:=World.ownsRow_lit w #[] 0 hB (by unfold maxLen;omega) (by simp)

theorem Ll {B e k n p:Nat} {v:Value} {xs:List Value} {w w':World} (h:w.ownsRow B e k v n xs) (hb:Below p w w') (hlt:∀ x,v.ownBlock=some x→x<p):w'.ownsRow B e k v n xs:=by
 refine ⟨h.1,?_⟩
 rcases h.2 with h0 | ⟨g,cap,cur,hv,hB,hg,rest⟩
 ·exact .inl h0
 exact .inr ⟨g,cap,cur,hv,hB,by rw [hb.block g (hlt g (by rw [hv];rfl))];exact hg,rest⟩

set_option linter.unusedVariables false
set_option linter.unusedSimpArgs false

theorem Z3.lowerB {B B':Nat} {w:World} {s:S4} {m:V4} (h:Z3 w B s m) (hB:B'≤B):Z3 w B' s m:=⟨⟨Xv h.1.1 hB,Xv h.1.2.1 hB,Xv h.1.2.2.1 hB,Xv h.1.2.2.2 hB⟩,h.2⟩
theorem ZJ:Zc Zu=true:=by decide
theorem WX {P:Program} {ops:Array Oper} {o:Oper} {a:Act} {w:World} {K:Act→World→Prop} {Q:Exit→Act→World→Prop} {E:Prop} (hgd:o.guard=none) (ty:TypeId) (x y:Operand) (ho:o.op=.store ty x y) (g:Nat) (vs:List Value) (hx:a.eval x=.pointer (some ⟨g,0,none⟩)) (hy:a.eval y=.agg vs.toArray) {t:Nat} {cs:List Value} (hB:Blk w g t cs)
  (hi:(P.info? ty).map (·.size)=some vs.length) (hl:cs.length=vs.length) (h1:vs.all (·.oneCell')=true)
  (h:∀ w',Hid (Blk w' g t vs)→w.grownBy w' (some g)→K (a.put o.dst undef) w'):if Region.wanted o (yielded ops a.tmps)=true then Oper.wp P o a w K Q else E:=by
 have hw:Region.wanted o (yielded ops a.tmps)=true:=by simp [Region.wanted,hgd]
 rw [if_pos hw]
 exact wp_store_row ty x y ho g vs.toArray hx hy t cs.toArray hB (by simpa using hi) (by simpa using hl) (by simpa using h1) (h _ (T1 vs hB) (Ve _ _ _))
end Go.Proofs.YtgmhhegckcionaaGreatDoor
