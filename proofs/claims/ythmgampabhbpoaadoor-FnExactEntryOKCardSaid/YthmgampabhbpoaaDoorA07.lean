/-
  Joined: Prog3, Prog4.
-/
import Derived.Handy
import Derived.OwnWalk
import Derived.Test.YthmgampabhbpoaaDoorA01

namespace Go.Proofs.YthmgampabhbpoaaDoor
set_option maxRecDepth 100000
set_option maxHeartbeats 16000000
open Go.RowKit

theorem cell_setCell_off (w:World) (p:Addr) (u:Value) {q:Addr} (h:q.block≠p.block):(w.setCell p u).cell? q=w.cell? q:=by
 have:=heap_setCell_other w p q.block u h
 unfold World.cell?
 rw [this]

theorem Instrs.setCell {w:World} {g len cap:Nat} {xs:List I3} (h:Instrs w (some ⟨g,0,none⟩) len cap xs) (p:Addr) (u:Value) (hne:g≠p.block):Instrs (w.setCell p u) (some ⟨g,0,none⟩) len cap xs:=by
 obtain ⟨h1,h2,h3,hf,h4⟩:=h
 refine ⟨h1,h2,h3,hf,?_⟩
 rcases h4 with h4 | ⟨b,off,ha,hlt,hc⟩
 ·exact .inl h4
 ·cases ha
  refine .inr ⟨g,0,rfl,by simpa using hlt,fun t ht=>?_⟩
  obtain ⟨c0,c1,c2⟩:=hc t ht
  exact ⟨by rw [cell_setCell_off _ _ _ hne];exact c0,by rw [cell_setCell_off _ _ _ hne];exact c1,by rw [cell_setCell_off _ _ _ hne];exact c2⟩

def RowsTo (w:World) (B k:Nat) (cs:List Value) (rows:List (List I3)):Prop:=
 ∀ t,t<k→∃ g len',cs[t]?=some (.slice (some ⟨g,0,none⟩) len' len')∧B<g∧Instrs w (some ⟨g,0,none⟩) len' len' (rows.getD t [])

theorem RowsTo.below {w w':World} {B k:Nat} {cs:List Value} {rows:List (List I3)} (h:RowsTo w B k cs rows) (hb:Below w.heap.size w w'):RowsTo w' B k cs rows:=fun t ht=>by
 obtain ⟨g,l,hc,hg,hi⟩:=h t ht
 exact ⟨g,l,hc,hg,hi.below hb⟩

theorem RowsTo.put {w:World} {B k:Nat} {cs:List Value} {rows:List (List I3)} (h:RowsTo w B k cs rows) (hk:k<cs.length) {g len':Nat} (hg:B<g) (hi:Instrs w (some ⟨g,0,none⟩) len' len' (rows.getD k [])) :
  RowsTo (w.setCell ⟨B,k,none⟩ (.slice (some ⟨g,0,none⟩) len' len')) B (k+1) (cs.set k (.slice (some ⟨g,0,none⟩) len' len')) rows:=fun t ht=>by
 by_cases htk:t=k
 ·subst htk
  exact ⟨g,len',by simp [hk],hg,hi.setCell _ _ (show g≠B by omega)⟩
 ·obtain ⟨g',l',hc,hg',hi'⟩:=h t (by omega)
  exact ⟨g',l',by rw [List.getElem?_set_ne (by omega)];exact hc,hg',hi'.setCell _ _ (show g'≠B by omega)⟩


theorem cells_kept {w w':World} (h:Below w.heap.size w w'):∀ (p:Addr) (v:Value),w.cell? p=some v→w'.cell? p=some v:=by
 intro p v hv
 have hlt:p.block<w.heap.size:=by
  rcases Nat.lt_or_ge p.block w.heap.size with h' | h'
  ·exact h'
  ·simp [World.cell?,Array.getElem?_eq_none h'] at hv
 rw [h.cell hlt]
 exact hv

end Go.Proofs.YthmgampabhbpoaaDoor
