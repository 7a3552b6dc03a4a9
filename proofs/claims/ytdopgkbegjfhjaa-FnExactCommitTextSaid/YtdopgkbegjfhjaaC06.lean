/-
  Joined: Prog2, Prog3.
-/
import Derived.Handy
import Derived.OwnWalk
import Derived.Test.YtdopgkbegjfhjaaC02

namespace Go.Proofs.Ytdopgkbegjfhjaa
set_option maxRecDepth 100000
set_option maxHeartbeats 16000000
open Go.RowKit

def I3.cells (x:I3):List Value:=[.int .i64 x.1,.int .i64 x.2.1,.int .i64 x.2.2]

def flat (xs:List I3):List Value:=xs.flatMap I3.cells

theorem flat_length (xs:List I3):(flat xs).length=xs.length*3:=by
 induction xs with
 | nil=>rfl
 | cons x xs ih=>simp [flat,I3.cells] at *;omega

theorem flat_take_succ {xs:List I3} {k:Nat} (hk:k<xs.length):flat (xs.take (k+1))=flat (xs.take k)++(xs.getD k (0,0,0)).cells:=by
 unfold flat
 rw [List.take_succ_eq_append_getElem hk,List.flatMap_append]
 simp [List.getD,hk,I3.cells]

theorem set3_take {cs l:List Value} {k:Nat} (a b c:Value) (hl:k*3+3≤cs.length) (ht:cs.take (k*3)=l) :
  (((cs.set (k*3) a).set (k*3+1) b).set (k*3+2) c).take ((k+1)*3)=l++[a,b,c]:=by
 have hll:l.length=k*3:=by rw [← ht,List.length_take];omega
 obtain ⟨x,y,z,rest,hd⟩:∃ x y z rest,cs.drop (k*3)=x::y::z::rest:=by
  match h:cs.drop (k*3),(by rw [List.length_drop];omega:3≤(cs.drop (k*3)).length) with
  | x::y::z::rest,_=>exact ⟨x,y,z,rest,rfl⟩
 have hcs:cs=l++x::y::z::rest:=by rw [← ht,← hd,List.take_append_drop]
 rw [hcs,← hll,List.set_append_right _ _ (Nat.le_refl _),List.set_append_right _ _ (by omega),List.set_append_right _ _ (by omega)]
 rw [show (k+1)*3=l.length+3 by omega,List.take_length_add_append]
 simp [show l.length+1 - l.length=1 by omega,show l.length+2 - l.length=2 by omega]

theorem Instrs.of_owns {w:World} {base e n cap g:Nat} {cs:List Value} {xs:List I3} (h:w.ownsRow base e 3 (.slice (some ⟨g,0,none⟩) n cap) n cs) (hl:xs.length=n) (hf:∀ x ∈ xs,I3.fits x) (hcs:cs=flat xs) :
  Instrs w (some ⟨g,0,none⟩) n cap xs:=by
 have hcell:∀ t,t<n→∀ j,j<3→w.cell? ⟨g,t*3+j,none⟩=((xs.getD t (0,0,0)).cells)[j]?:=by
  intro t ht j hj
  rw [h.cellAt (t*3+j) (by omega),hcs]
  have hsplit:flat xs=flat (xs.take t)++((xs.getD t (0,0,0)).cells++flat (xs.drop (t+1))):=by
   rw [← List.append_assoc,← flat_take_succ (by omega)]
   unfold flat
   rw [← List.flatMap_append,List.take_append_drop]
  have hlt:(flat (xs.take t)).length=t*3:=by rw [flat_length,List.length_take];rw [Nat.min_eq_left (by omega)]
  rw [hsplit,List.getElem?_append_right (by omega),hlt,Nat.add_sub_cancel_left,List.getElem?_append_left (by simp [I3.cells];omega)]
 have hg:=(h.lt g rfl).2
 rcases h.2 with ⟨h0,_⟩ | ⟨g',cap',cur,hv,_,_,hn,hcap,_,_⟩
 ·cases h0
 ·cases hv
  exact ⟨hl,hn,hcap,hf,.inr ⟨g,0,rfl,hg,fun t ht=>⟨by simpa [I3.cells] using hcell t ht 0 (by omega),by simpa [I3.cells] using hcell t ht 1 (by omega),by simpa [I3.cells] using hcell t ht 2 (by omega)⟩⟩⟩

theorem owns_below {B e k n:Nat} {v:Value} {xs:List Value} {w w':World} (h:w.ownsRow B e k v n xs) (hb:Below w.heap.size w w'):w'.ownsRow B e k v n xs:=by
 refine ⟨h.1,?_⟩
 rcases h.2 with h0 | ⟨g,cap,cur,hv,hB,hg,rest⟩
 ·exact .inl h0
 ·have hlt:g<w.heap.size:=by
   rcases Nat.lt_or_ge g w.heap.size with h' | h'
   ·exact h'
   ·simp [Array.getElem?_eq_none h'] at hg
  exact .inr ⟨g,cap,cur,hv,hB,by rw [hb.block g hlt];exact hg,rest⟩


theorem cell_setCell_off (w:World) (p:Addr) (u:Value) {q:Addr} (h:q.block≠p.block):(w.setCell p u).cell? q=w.cell? q:=by
 have:=heap_setCell_other w p q.block u h
 unfold World.cell?
 rw [this]

theorem Instrs.setCell {w:World} {g len cap:Nat} {xs:List I3} (h:Instrs w (some ⟨g,0,none⟩) len cap xs) (p:Addr) (u:Value) (hne:g≠p.block):Instrs (w.setCell p u) (some ⟨g,0,none⟩) len cap xs:=by
 obtain ⟨h1,h2,h3,hf,h4⟩:=h
 refine ⟨h1,h2,h3,hf,?_⟩
 rcases h4 with h4 | ⟨b,off,ha,hlt,hc⟩
 ·exact .inl h4
 ·cases ha
  refine .inr ⟨g,0,rfl,by simpa using hlt,fun t ht=>?_⟩
  obtain ⟨c0,c1,c2⟩:=hc t ht
  exact ⟨by rw [cell_setCell_off _ _ _ hne];exact c0,by rw [cell_setCell_off _ _ _ hne];exact c1,by rw [cell_setCell_off _ _ _ hne];exact c2⟩

def RowsTo (w:World) (B k:Nat) (cs:List Value) (rows:List (List I3)):Prop:=
 ∀ t,t<k→∃ g len',cs[t]?=some (.slice (some ⟨g,0,none⟩) len' len')∧B<g∧Instrs w (some ⟨g,0,none⟩) len' len' (rows.getD t [])

theorem RowsTo.below {w w':World} {B k:Nat} {cs:List Value} {rows:List (List I3)} (h:RowsTo w B k cs rows) (hb:Below w.heap.size w w'):RowsTo w' B k cs rows:=fun t ht=>by
 obtain ⟨g,l,hc,hg,hi⟩:=h t ht
 exact ⟨g,l,hc,hg,hi.below hb⟩

theorem RowsTo.put {w:World} {B k:Nat} {cs:List Value} {rows:List (List I3)} (h:RowsTo w B k cs rows) (hk:k<cs.length) {g len':Nat} (hg:B<g) (hi:Instrs w (some ⟨g,0,none⟩) len' len' (rows.getD k [])) :
  RowsTo (w.setCell ⟨B,k,none⟩ (.slice (some ⟨g,0,none⟩) len' len')) B (k+1) (cs.set k (.slice (some ⟨g,0,none⟩) len' len')) rows:=fun t ht=>by
 by_cases htk:t=k
 ·subst htk
  exact ⟨g,len',by simp [hk],hg,hi.setCell _ _ (show g≠B by omega)⟩
 ·obtain ⟨g',l',hc,hg',hi'⟩:=h t (by omega)
  exact ⟨g',l',by rw [List.getElem?_set_ne (by omega)];exact hc,hg',hi'.setCell _ _ (show g'≠B by omega)⟩

end Go.Proofs.Ytdopgkbegjfhjaa
