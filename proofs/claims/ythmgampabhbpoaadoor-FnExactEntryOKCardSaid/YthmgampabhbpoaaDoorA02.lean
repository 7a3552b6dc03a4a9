/-
  Joined: Vm0, Prog2.
-/
import Derived.ChangeSlices
import Derived.Lib.SmallJoins
import Derived.Handy
import Derived.OwnWalk
import Derived.Test.YthmgampabhbpoaaDoorA01

namespace Go.Proofs.YthmgampabhbpoaaDoor
set_option maxRecDepth 100000
set_option maxHeartbeats 16000000
open Go.RowKit Go.ChangeShapes Go.WideShapes Go.Joins

abbrev V4:=List Int × List Int × List Int × List Int
abbrev Sl:=Option Addr × Nat × Nat
def Sl.val (s:Sl):Value:=.slice s.1 s.2.1 s.2.2
abbrev S4:=Sl × Sl × Sl × Sl
def S4.val (s:S4):Value:=.agg #[.slice s.1.1 s.1.2.1 s.1.2.2,.slice s.2.1.1 s.2.1.2.1 s.2.1.2.2,.slice s.2.2.1.1 s.2.2.1.2.1 s.2.2.1.2.2,.slice s.2.2.2.1 s.2.2.2.2.1 s.2.2.2.2.2]
def SlInts (w:World) (s:Sl) (zs:List Int):Prop:=Ints .i64 w s.1 s.2.1 s.2.2 zs∧∀ z ∈ zs,(Lit.int .i64 z).wf=true
def Vmem (w:World) (s:S4) (m:V4):Prop:=SlInts w s.1 m.1∧SlInts w s.2.1 m.2.1∧SlInts w s.2.2.1 m.2.2.1∧SlInts w s.2.2.2 m.2.2.2

theorem SlInts.below {w w':World} {s:Sl} {zs:List Int} (h:SlInts w s zs) (hb:Below w.heap.size w w'):SlInts w' s zs:=⟨h.1.below hb,h.2⟩
theorem Vmem.below {w w':World} {s:S4} {m:V4} (h:Vmem w s m) (hb:Below w.heap.size w w'):Vmem w' s m:=⟨h.1.below hb,h.2.1.below hb,h.2.2.1.below hb,h.2.2.2.below hb⟩

section
variable {H : Type} {enc : TypeId × Value → H} {P : Program} {w : World} {base : Nat} {spare : Nat → Bool} {held : Bool}
theorem open_slI {t e:TypeId} {fuel:Nat} {v:Value} {x:DataW H × List MemPlace} (hs:P.underlying t=some (.slice e)) (he:P.underlying e=some (.int .i64)) (hC:P.cellsOf e=1)
  (h:DataW.trod enc P w base spare held fuel t [v]=some x):∃ (s:Sl) (zs:List Int),v=s.val∧SlInts w s zs:=by
 rcases Go.ChangeShapes.open_ints hs he hC h with ⟨hcs,_⟩ | ⟨a,len,cap,zs,hcs,_,hl,hm,hz,_,hcell,hwf⟩
 ·simp at hcs
  exact ⟨(none,0,0),[],hcs,⟨rfl,Nat.le_refl _,Nat.zero_le _,.inl rfl⟩,by simp⟩
 ·simp at hcs
  have hle:len≤zs.length:=by rw [hz];split<;>omega
  refine ⟨(some a,len,cap),zs.take len,hcs,⟨by simp;omega,hl,hm,?_⟩,fun z hz=>hwf z (List.mem_of_mem_take hz)⟩
  rcases Nat.eq_zero_or_pos len with h0 | h0
  ·exact .inl h0
  ·right
   obtain ⟨b,off,spot⟩:=a
   have hc:=hcell 0 (by omega)
   have hspot:spot=none:=by simpa [Addr.add] using World.cell?_spot hc
   subst hspot
   have hall:∀ t,t<len→w.cell? ⟨b,off+t,none⟩=some (.int .i64 ((zs.take len).getD t 0)):=by
    intro t ht
    have:=hcell t (by omega)
    have e:(⟨b,off,none⟩:Addr).add t=⟨b,off+t,none⟩:=by unfold Addr.add;split<;>simp_all
    rw [e] at this
    rw [this]
    simp [List.getD,ht]
   exact ⟨b,off,rfl,lt_of_cell (hall 0 h0),hall⟩
end

open Go.RowKit

def I3.cells (x:I3):List Value:=[.int .i64 x.1,.int .i64 x.2.1,.int .i64 x.2.2]

def flat (xs:List I3):List Value:=xs.flatMap I3.cells

theorem flat_length (xs:List I3):(flat xs).length=xs.length*3:=by
 induction xs with
 | nil=>rfl
 | cons x xs ih=>simp [flat,I3.cells] at *;omega

theorem flat_take_succ {xs:List I3} {k:Nat} (hk:k<xs.length):flat (xs.take (k+1))=flat (xs.take k)++(xs.getD k (0,0,0)).cells:=by
 unfold flat
 rw [List.take_succ_eq_append_getElem hk,List.flatMap_append]
 simp [List.getD,hk,I3.cells]

theorem set3_take {cs l:List Value} {k:Nat} (a b c:Value) (hl:k*3+3≤cs.length) (ht:cs.take (k*3)=l) :
  (((cs.set (k*3) a).set (k*3+1) b).set (k*3+2) c).take ((k+1)*3)=l++[a,b,c]:=by
 have hll:l.length=k*3:=by rw [← ht,List.length_take];omega
 obtain ⟨x,y,z,rest,hd⟩:∃ x y z rest,cs.drop (k*3)=x::y::z::rest:=by
  match h:cs.drop (k*3),(by rw [List.length_drop];omega:3≤(cs.drop (k*3)).length) with
  | x::y::z::rest,_=>exact ⟨x,y,z,rest,rfl⟩
 have hcs:cs=l++x::y::z::rest:=by rw [← ht,← hd,List.take_append_drop]
 rw [hcs,← hll,List.set_append_right _ _ (Nat.le_refl _),List.set_append_right _ _ (by omega),List.set_append_right _ _ (by omega)]
 rw [show (k+1)*3=l.length+3 by omega,List.take_length_add_append]
 simp [show l.length+1 - l.length=1 by omega,show l.length+2 - l.length=2 by omega]

theorem Instrs.of_owns {w:World} {base e n cap g:Nat} {cs:List Value} {xs:List I3} (h:w.ownsRow base e 3 (.slice (some ⟨g,0,none⟩) n cap) n cs) (hl:xs.length=n) (hf:∀ x ∈ xs,I3.fits x) (hcs:cs=flat xs) :
  Instrs w (some ⟨g,0,none⟩) n cap xs:=by
 have hcell:∀ t,t<n→∀ j,j<3→w.cell? ⟨g,t*3+j,none⟩=((xs.getD t (0,0,0)).cells)[j]?:=by
  intro t ht j hj
  rw [h.cellAt (t*3+j) (by omega),hcs]
  have hsplit:flat xs=flat (xs.take t)++((xs.getD t (0,0,0)).cells++flat (xs.drop (t+1))):=by
   rw [← List.append_assoc,← flat_take_succ (by omega)]
   unfold flat
   rw [← List.flatMap_append,List.take_append_drop]
  have hlt:(flat (xs.take t)).length=t*3:=by rw [flat_length,List.length_take];rw [Nat.min_eq_left (by omega)]
  rw [hsplit,List.getElem?_append_right (by omega),hlt,Nat.add_sub_cancel_left,List.getElem?_append_left (by simp [I3.cells];omega)]
 have hg:=(h.lt g rfl).2
 rcases h.2 with ⟨h0,_⟩ | ⟨g',cap',cur,hv,_,_,hn,hcap,_,_⟩
 ·cases h0
 ·cases hv
  exact ⟨hl,hn,hcap,hf,.inr ⟨g,0,rfl,hg,fun t ht=>⟨by simpa [I3.cells] using hcell t ht 0 (by omega),by simpa [I3.cells] using hcell t ht 1 (by omega),by simpa [I3.cells] using hcell t ht 2 (by omega)⟩⟩⟩

theorem owns_below {B e k n:Nat} {v:Value} {xs:List Value} {w w':World} (h:w.ownsRow B e k v n xs) (hb:Below w.heap.size w w'):w'.ownsRow B e k v n xs:=by
 refine ⟨h.1,?_⟩
 rcases h.2 with h0 | ⟨g,cap,cur,hv,hB,hg,rest⟩
 ·exact .inl h0
 ·have hlt:g<w.heap.size:=by
   rcases Nat.lt_or_ge g w.heap.size with h' | h'
   ·exact h'
   ·simp [Array.getElem?_eq_none h'] at hg
  exact .inr ⟨g,cap,cur,hv,hB,by rw [hb.block g hlt];exact hg,rest⟩

end Go.Proofs.YthmgampabhbpoaaDoor
