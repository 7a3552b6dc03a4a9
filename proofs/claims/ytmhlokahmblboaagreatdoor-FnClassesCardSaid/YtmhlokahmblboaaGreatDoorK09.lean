/-
  Joined: DrawP, Vm0, Vm2.
-/
import Derived.ChangeSlices
import Derived.Lib.SmallJoins
import Derived.Test.YtmhlokahmblboaaGreatDoorK05
import Derived.Test.YtmhlokahmblboaaGreatDoorK07
import Derived.Test.YtmhlokahmblboaaGreatDoorK08

namespace Go.Proofs.YtmhlokahmblboaaGreatDoor
set_option maxRecDepth 100000
set_option maxHeartbeats 16000000
open Go.RowKit

def MP (nn:Nat) (xs:List I3):Prop:=∀ i,i<xs.length→okI (xs.getD i (0,0,0))=true∧Uj (xs.getD i (0,0,0)) i nn
theorem QW {nn:Nat} {xs:List I3} {x:I3} (h:MP nn xs) (h1:okI x=true) (h2:Uj x xs.length nn):MP nn (xs++[x]):=by
 intro i hi
 by_cases e:i=xs.length
 ·subst e
  simpa [List.getD] using ⟨h1,h2⟩
 have hi':i<xs.length:=by simp at hi;omega
 have:=h i hi'
 have e2:(xs++[x]).getD i (0,0,0)=xs.getD i (0,0,0):=by simp [List.getD,List.getElem?_append_left hi']
 rw [e2]
 exact this
theorem QV {n:Nat}:∀ (k:Nat) (xs:List I3),(∀ i,i<xs.length→okI (xs.getD i (0,0,0))=true∧Uj (xs.getD i (0,0,0)) (k+i) n)→Z2 n k xs=true
 | _,[],_=>rfl
 | k,x::xs,h=>by
  have h0:=h 0 (by simp)
  simp at h0
  have hl:Wn x k n=true:=by
   unfold Wn
   split
   ·rename_i e
    have:=h0.2 e
    exact ZA.2 this
   rfl
  have ih:=QV (n:=n) (k+1) xs (fun i hi=>by
   have:=h (i+1) (by simp;omega)
   rw [List.getD_cons_succ] at this
   rwa [show k+(i+1)=k+1+i by omega] at this)
  simp [Z2,h0.1,hl,ih]
theorem QB {xs:List I3} (hl:xs.length≤6) (h:MP xs.length xs):ZN xs=true:=by
 unfold ZN
 have:=QV (n:=xs.length) 0 xs (fun i hi=>by simpa using h i hi)
 simp [hl,this]
theorem K6 {rows:List (List I3)} (h3:rows.length=3) (h:∀ r ∈ rows,ZN r=true):Zn rows=true:=by
 unfold Zn
 simp [h3]
 exact h
theorem XN.went {p:Nat} {w w':World} {B k:Nat} {vs:List Value} {rows:List (List I3)} (h:XN w B k vs rows) (hw:Yy p w w') (hp:p<B):XN w' B k vs rows:=⟨fun t ht=>ZB (h.1 t ht) hw hp,h.2⟩
theorem XN.push' {w:World} {B k s0:Nat} {vs:List Value} {sv:Value} {done:List (List I3)} {r:List I3} (h:XN w B k vs done) (hv:vs.length=k) (hd:done.length=k) (hlow:∀ t x,t<k→(vs.getD t undef).ownBlock=some x→x<s0)
  (hn:w.ownsRow s0 122 3 sv r.length (Zr r)) (hB:B≤s0):XN w B (k+1) (vs++[sv]) (done++[r]):=by
 have hold:∀ t,t<k→(done++[r]).getD t []=done.getD t []:=fun t ht=>by simp [List.getD,List.getElem?_append_left (show t<done.length by omega)]
 have hnew:(done++[r]).getD k []=r:=by subst hd;simp [List.getD]
 have hvold:∀ t,t<k→(vs++[sv]).getD t undef=vs.getD t undef:=fun t ht=>by simp [List.getD,List.getElem?_append_left (show t<vs.length by omega)]
 have hvnew:(vs++[sv]).getD k undef=sv:=by subst hv;simp [List.getD]
 refine ⟨fun t ht=>?_,fun t t' ht ht' hne=>?_⟩
 ·by_cases e:t=k
  ·subst e
   rw [hnew,hvnew]
   exact UX hn hB
  rw [hold t (by omega),hvold t (by omega)]
  exact h.1 t (by omega)
 by_cases e:t=k
 ·subst e
  rw [hvnew,hvold t' (by omega)]
  rcases hb:sv.ownBlock with _ | x
  ·exact .inl rfl
  refine .inr fun h'=>?_
  have h1:=(hn.lt x hb).1
  have h2:=hlow t' x (by omega) h'.symm
  omega
 rw [hvold t (by omega)]
 by_cases e':t'=k
 ·subst e'
  rw [hvnew]
  rcases hb:(vs.getD t undef).ownBlock with _ | x
  ·exact .inl rfl
  refine .inr fun h'=>?_
  have h1:=(hn.lt x h'.symm).1
  have h2:=hlow t x (by omega) hb
  omega
 rw [hvold t' (by omega)]
 exact h.2 t t' (by omega) (by omega) hne
theorem Lx (a:Option Addr) (n c:Nat):∀ u ∈ [Value.slice a n c],u.oneCell'=true:=by intro u hu;simp at hu;subst hu;rfl
theorem RZ (w:World) (x:Value) (t:TypeId):∀ j u,[x][j]?=some u→(w.alloc (.cells #[x] t)).cell? ((⟨w.heap.size,0,none⟩:Addr).add j)=some u:=by
 intro j u hj
 match j,hj with
 | 0,hj=>simp at hj;subst hj;simp [Addr.add]
 | (j+1),hj=>simp at hj
theorem Px (w:World) (t s B:Nat) (hB:B≤w.heap.size):(w.alloc (.cells #[] t)).ownsRow B t s (.slice (some ⟨w.heap.size,0,none⟩) 0 0) 0 []:=World.ownsRow_lit w #[] 0 hB (by unfold maxLen;omega) (by simp)

theorem NV {B e k n p:Nat} {v:Value} {xs:List Value} {w w':World} (h:w.ownsRow B e k v n xs) (hb:Below p w w') (hlt:∀ x,v.ownBlock=some x→x<p):w'.ownsRow B e k v n xs:=by
 refine ⟨h.1,?_⟩
 rcases h.2 with h0 | ⟨g,cap,cur,hv,hB,hg,rest⟩
 ·exact .inl h0
 exact .inr ⟨g,cap,cur,hv,hB,by rw [hb.block g (hlt g (by rw [hv];rfl))];exact hg,rest⟩

open Go.RowKit Go.ChangeShapes Go.WideShapes Go.Joins

abbrev V4:=List Int × List Int × List Int × List Int
abbrev Sl:=Option Addr × Nat × Nat
def Sl.val (s:Sl):Value:=.slice s.1 s.2.1 s.2.2
abbrev S4:=Sl × Sl × Sl × Sl
def S4.val (s:S4):Value:=.agg #[.slice s.1.1 s.1.2.1 s.1.2.2,.slice s.2.1.1 s.2.1.2.1 s.2.1.2.2,.slice s.2.2.1.1 s.2.2.1.2.1 s.2.2.1.2.2,.slice s.2.2.2.1 s.2.2.2.2.1 s.2.2.2.2.2]
def UM (w:World) (s:Sl) (zs:List Int):Prop:=YS .i64 w s.1 s.2.1 s.2.2 zs∧∀ z ∈ zs,(Lit.int .i64 z).wf=true
def Yk (w:World) (s:S4) (m:V4):Prop:=UM w s.1 m.1∧UM w s.2.1 m.2.1∧UM w s.2.2.1 m.2.2.1∧UM w s.2.2.2 m.2.2.2

theorem UM.below {w w':World} {s:Sl} {zs:List Int} (h:UM w s zs) (hb:Below w.heap.size w w'):UM w' s zs:=⟨h.1.below hb,h.2⟩
theorem Yk.below {w w':World} {s:S4} {m:V4} (h:Yk w s m) (hb:Below w.heap.size w w'):Yk w' s m:=⟨h.1.below hb,h.2.1.below hb,h.2.2.1.below hb,h.2.2.2.below hb⟩

section
variable {H : Type} {enc : TypeId × Value → H} {P : Program} {w : World} {base : Nat} {spare : Nat → Bool} {held : Bool}
end


def ZG (w:World) (B:Nat) (s:Sl) (zs:List Int):Prop:=w.ownsRow B 3 1 (.slice s.1 s.2.1 s.2.2) s.2.1 (zs.map (Value.int .i64))
def Vi (s s':Sl):Prop:=∀ g,(Value.slice s.1 s.2.1 s.2.2).ownBlock=some g→(Value.slice s'.1 s'.2.1 s'.2.2).ownBlock≠some g
def ZP (w:World) (B:Nat) (s:S4) (m:V4):Prop:=
 (ZG w B s.1 m.1∧ZG w B s.2.1 m.2.1∧ZG w B s.2.2.1 m.2.2.1∧ZG w B s.2.2.2 m.2.2.2) ∧
 Vi s.1 s.2.1∧Vi s.1 s.2.2.1∧Vi s.1 s.2.2.2∧Vi s.2.1 s.2.2.1∧Vi s.2.1 s.2.2.2∧Vi s.2.2.1 s.2.2.2
def V4.fits (m:V4):Prop:=(∀ z ∈ m.1,(Lit.int .i64 z).wf=true)∧(∀ z ∈ m.2.1,(Lit.int .i64 z).wf=true)∧(∀ z ∈ m.2.2.1,(Lit.int .i64 z).wf=true)∧∀ z ∈ m.2.2.2,(Lit.int .i64 z).wf=true
theorem ZG.ints {w:World} {B:Nat} {s:Sl} {zs:List Int} (h:ZG w B s zs):YS .i64 w s.1 s.2.1 s.2.2 zs:=by
 obtain ⟨a,n,c⟩:=s
 unfold ZG at h
 simp only at h ⊢
 rcases h.2 with ⟨h0,h1⟩ | ⟨g,cap,cur,hv,_⟩
 ·cases h0
  have hl:zs.length=0:=by simpa using h.1
  exact ⟨hl,Nat.le_refl _,Nat.zero_le _,.inl rfl⟩
 cases hv
 exact YS.of_owns h
theorem ZG.below {w w':World} {B:Nat} {s:Sl} {zs:List Int} (h:ZG w B s zs) (hb:Below w.heap.size w w'):ZG w' B s zs:=Ze h hb
theorem ZP.below {w w':World} {B:Nat} {s:S4} {m:V4} (h:ZP w B s m) (hb:Below w.heap.size w w'):ZP w' B s m:=⟨⟨h.1.1.below hb,h.1.2.1.below hb,h.1.2.2.1.below hb,h.1.2.2.2.below hb⟩,h.2⟩
theorem ZP.mem {w:World} {B:Nat} {s:S4} {m:V4} (h:ZP w B s m) (hf:V4.fits m):Yk w s m:=⟨⟨h.1.1.ints,hf.1⟩,⟨h.1.2.1.ints,hf.2.1⟩,⟨h.1.2.2.1.ints,hf.2.2.1⟩,⟨h.1.2.2.2.ints,hf.2.2.2⟩⟩
theorem XF {w:World} {B B' e s n:Nat} {v:Value} {cs:List Value} (h:w.ownsRow B e s v n cs) (hB:B'≤B):w.ownsRow B' e s v n cs:=by
 refine ⟨h.1,?_⟩
 rcases h.2 with h0 | ⟨g,cap,cur,hv,hg,rest⟩
 ·exact .inl h0
 exact .inr ⟨g,cap,cur,hv,Nat.le_trans hB hg,rest⟩
theorem F9 (w:World) (x y z u:Value) (t B:Nat) (hB:B≤w.heap.size):(w.alloc (.cells #[x,y,z,u] t)).ownsRow B t 4 (.slice (some ⟨w.heap.size,0,none⟩) 1 1) 1 [x,y,z,u]:=World.ownsRow_lit w #[x,y,z,u] 1 hB (by unfold maxLen;omega) rfl

end Go.Proofs.YtmhlokahmblboaaGreatDoor
