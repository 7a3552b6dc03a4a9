/-
  Joined: Rw3, KeyB.
-/
import Derived.Laws.RangeString
import Derived.Laws.RangeAny
import Derived.Laws.Bits
import Derived.Lib.FieldsP
import Derived.Recover
import Derived.Shelf.SlSortCmp.Insertion
import Derived.Shelf.SlSortCmp.NoneTotal
import Derived.Shelf.Spec.SlicesGrow
import Derived.Laws.AppendOwnNone
import Derived.Lib.SliceRun
import Derived.Lib.Hide
import Derived.Deep.MidRow
import Derived.Test.YtifoggpohlegmaaGreatDoorF10
import Derived.Test.YtifoggpohlegmaaGreatDoorF15
import Derived.Test.YtifoggpohlegmaaGreatDoorF20
import Derived.Test.YtifoggpohlegmaaGreatDoorF26

namespace Go.Proofs.YtifoggpohlegmaaGreatDoor
set_option maxRecDepth 100000
set_option maxHeartbeats 16000000
open Go.RowKit
set_option linter.unusedVariables false

def Ap3 (v u:Value):Prop:=∀ g,v.ownBlock=some g→u.ownBlock≠some g
theorem Ap3.symm {v u:Value} (h:Ap3 v u):Ap3 u v:=fun g hg h2=>h g h2 hg
theorem Ap3.or {v u:Value} (h:Ap3 v u):v.ownBlock=none∨v.ownBlock≠u.ownBlock:=by
 cases e:v.ownBlock with
 | none=>exact .inl rfl
 | some g=>exact .inr fun e2=>h g e e2.symm
theorem Ap3.types {w:World} {B B' e e' s s' n n':Nat} {v v':Value} {xs xs':List Value} (h:w.ownsRow B e s v n xs) (h':w.ownsRow B' e' s' v' n' xs') (he:e≠e'):Ap3 v v':=fun g hg h2=>by
 rcases owns_ne h h' he with h3 | h3
 ·rw [h3] at hg;cases hg
 ·exact h3 (hg.trans h2.symm)
theorem own_lt3 {w:World} {B e s n:Nat} {v:Value} {xs:List Value} (h:w.ownsRow B e s v n xs) {g:Nat} (hg:v.ownBlock=some g):B≤g∧g<w.heap.size:=by
 rcases h.2 with ⟨rfl,_⟩ | ⟨g',cap,cur,rfl,hb,hgg,_⟩
 ·simp [Value.ownBlock] at hg
 ·simp [Value.ownBlock] at hg
  subst hg
  refine ⟨hb,?_⟩
  rcases Nat.lt_or_ge g' w.heap.size with h1 | h1
  ·exact h1
  ·rw [Array.getElem?_eq_none h1] at hgg;cases hgg
theorem Ap3.fresh {w w':World} {B e e' s s' n n' B':Nat} {v v':Value} {xs xs':List Value} (h:w.ownsRow B e s v n xs) (h':w'.ownsRow B' e' s' v' n' xs') (hB:w.heap.size≤B'):Ap3 v v':=fun g hg h2=>by
 have h1:=(own_lt3 h hg).2
 have h3:=(own_lt3 h' h2).1
 omega
theorem Ap3.moved {w:World} {B e s n:Nat} {v u u':Value} {xs:List Value} (h:w.ownsRow B e s v n xs) (ha:Ap3 v u) (hu:u'.ownBlock=u.ownBlock∨u'.ownBlock=some w.heap.size):Ap3 v u':=fun g hg h2=>by
 rcases hu with hu | hu
 ·exact ha g hg (hu▸h2)
 ·have h1:=(own_lt3 h hg).2
  rw [hu] at h2
  cases h2
  omega

structure Tri (w:World) (B:Nat) (v1 v2 v3:Value) (ts:List ByteArray) (fs bs:List Int):Prop where
 ks:w.ownsRow B 9 1 v1 ts.length (ts.map Value.string)
 fr:w.ownsRow B 3 1 v2 fs.length (fs.map (Value.int .i64))
 bw:w.ownsRow B 3 1 v3 bs.length (bs.map (Value.int .i64))
 ap:Ap3 v2 v3
theorem Tri.below {w w':World} {B:Nat} {v1 v2 v3:Value} {ts:List ByteArray} {fs bs:List Int} (h:Tri w B v1 v2 v3 ts fs bs) (hb:Below w.heap.size w w'):Tri w' B v1 v2 v3 ts fs bs:=
 ⟨owns_below h.ks hb,owns_below h.fr hb,owns_below h.bw hb,h.ap⟩
structure Off3 (wi w:World) (v1 v2 v3 u1 u2 u3:Value):Prop where
 size:wi.heap.size≤w.heap.size
 keep:∀ k,k<wi.heap.size→v1.ownBlock≠some k→v2.ownBlock≠some k→v3.ownBlock≠some k→w.heap[k]?=wi.heap[k]?
 at1:u1.ownBlock=v1.ownBlock∨∃ g,wi.heap.size≤g∧u1.ownBlock=some g
 at2:u2.ownBlock=v2.ownBlock∨∃ g,wi.heap.size≤g∧u2.ownBlock=some g
 at3:u3.ownBlock=v3.ownBlock∨∃ g,wi.heap.size≤g∧u3.ownBlock=some g
theorem Off3.refl (w:World) (v1 v2 v3:Value):Off3 w w v1 v2 v3 v1 v2 v3:=⟨Nat.le_refl _,fun _ _ _ _ _=>rfl,.inl rfl,.inl rfl,.inl rfl⟩
theorem Off3.below {wi w w':World} {v1 v2 v3 u1 u2 u3:Value} (h:Off3 wi w v1 v2 v3 u1 u2 u3) (hb:Below w.heap.size w w'):Off3 wi w' v1 v2 v3 u1 u2 u3:=
 ⟨Nat.le_trans h.size hb.size,fun k hk a b c=>(hb.block k (Nat.lt_of_lt_of_le hk h.size)).trans (h.keep k hk a b c),h.at1,h.at2,h.at3⟩
theorem Off3.row {wi w:World} {v1 v2 v3 u1 u2 u3:Value} (h:Off3 wi w v1 v2 v3 u1 u2 u3) {B e s n:Nat} {v:Value} {xs:List Value} (ho:wi.ownsRow B e s v n xs) (a1:Ap3 v v1) (a2:Ap3 v v2) (a3:Ap3 v v3):w.ownsRow B e s v n xs:=by
 have hlt:=fun g hg=>(own_lt3 ho (g:=g) hg).2
 refine ⟨ho.1,?_⟩
 rcases ho.2 with hn | ⟨g,cap,cur,rfl,hb,hgg,rest⟩
 ·exact .inl hn
 ·exact .inr ⟨g,cap,cur,rfl,hb,(h.keep g (hlt g rfl) (a1 g rfl) (a2 g rfl) (a3 g rfl)).trans hgg,rest⟩

/-! The rows that go with the list of states. -/
def keysL (S:List (Rec6 V4)):List ByteArray:=S.map fun r=>keyT r.1
theorem keysL_app (S:List (Rec6 V4)) (r:Rec6 V4):keysL (S++[r])=keysL S++[keyT r.1]:=by simp [keysL]

set_option linter.unusedSimpArgs false

theorem btV_str6 (xs:List Int) (h:∀ x ∈ xs,0≤x∧x≤255) (i:Nat) (hi:i<xs.length):btV (strOfNums xs) i=xs.getD i 0:=by
 have hx:=h xs[i] (List.getElem_mem hi)
 unfold btV
 simp [strOfNums,List.getD,List.getElem?_eq_getElem hi]
 omega
theorem keyT_size6 {m:V4} (h:shapeOk m=true):(keyT m).size=15:=by
 obtain ⟨l0,l1,l2,l3,_⟩:=shape_parts h
 unfold keyT
 rw [strOfNums_size,List.length_map]
 unfold allOf
 simp [l0,l1,l2,l3]
theorem key_back6 {m:V4} (h:shapeOk m=true):bytesV (keyT m)=m:=by
 obtain ⟨l0,l1,l2,l3,hd⟩:=shape_parts h
 have hb:∀ i,i<15→btV (keyT m) i - 48=(allOf m).getD i 0:=fun i hi=>by
  have hl:(allOf m).length=15:=by unfold allOf;simp [l0,l1,l2,l3]
  unfold keyT
  rw [btV_str6 _ (fun x hx=>by obtain ⟨z,hz,rfl⟩:=List.mem_map.1 hx;have:=hd z hz;omega) i (by rw [List.length_map];omega)]
  have e:((allOf m).map fun z=>48+z).getD i 0=48+(allOf m).getD i 0:=by
   have hi':i<(allOf m).length:=by omega
   simp [List.getD,List.getElem?_eq_getElem hi']
  rw [e]
  omega
 have b0:=hb 0 (by omega)
 have b1:=hb 1 (by omega)
 have b2:=hb 2 (by omega)
 have b3:=hb 3 (by omega)
 have b4:=hb 4 (by omega)
 have b5:=hb 5 (by omega)
 have b6:=hb 6 (by omega)
 have b7:=hb 7 (by omega)
 have b8:=hb 8 (by omega)
 have b9:=hb 9 (by omega)
 have b10:=hb 10 (by omega)
 have b11:=hb 11 (by omega)
 have b12:=hb 12 (by omega)
 have b13:=hb 13 (by omega)
 have b14:=hb 14 (by omega)
 clear hb hd l0 l1 l2 l3
 obtain ⟨p0,p1,p2,v0,v1,v2,v3,h0,h1,x0,y0,x1,y1,x2,y2,rfl⟩:=shape_lists h
 unfold bytesV partV fillL
 simp [List.range_succ,b0,b1,b2,b3,b4,b5,b6,b7,b8,b9,b10,b11,b12,b13,b14]
 simp [allOf]
theorem key_inj6 {m q:V4} (h:shapeOk m=true) (h':shapeOk q=true) (e:keyT m=keyT q):m=q:=by rw [← key_back6 h,e,key_back6 h']
end Go.Proofs.YtifoggpohlegmaaGreatDoor
