/-
  Joined: NorS, ScI.
-/
import Derived.Stop.Asserts
import Derived.Recover
import Derived.Shelf.SlSortCmp.Insertion
import Derived.Shelf.SlSortCmp.NoneTotal
import Derived.Shelf.Spec.SlicesGrow
import Derived.Laws.AppendOwnNone
import Derived.Lib.SliceRun
import Derived.Lib.Hide
import Derived.Deep.MidRow
import Derived.Test.YtifoggpohlegmaaGreatDoorW44
import Derived.Test.YtifoggpohlegmaaGreatDoorW45

namespace Go.Proofs.YtifoggpohlegmaaGreatDoor
set_option maxRecDepth 100000
set_option maxHeartbeats 16000000
open Go.RowKit
set_option linter.unusedVariables false
set_option linter.unusedSimpArgs false

theorem owns_sliceN {w:World} {B e s n:Nat} {v:Value} {xs:List Value} (h:w.ownsRow B e s v n xs):∃ a cap,v=.slice a n cap:=by
 rcases h.2 with ⟨rfl,rfl⟩ | ⟨g,cap,cur,rfl,_⟩
 ·exact ⟨_,_,rfl⟩
 ·exact ⟨_,_,rfl⟩
noncomputable def stN (es:List I4) (s:Nat):(Nat→Bool) × List Nat:=stS (befB (depE es)) (thE es) es.length s
def OnNor (w wr:World) (gO gU:Nat) (es:List I4) (n s:Nat) (vo:Value):Prop:=
 Blk wr gO 4 (tab2 n (befB (depE es)))∧Blk wr gU 4 (tab n fun j=>.bool ((stN es s).1 j))∧wr.ownsRow w.heap.size 3 1 vo s (((stN es s).2.map (fun t:Nat=>(t:Int))).map (Value.int .i64))∧Below w.heap.size w wr∧gO<wr.heap.size
theorem OnNor.drewN {w wr:World} {gO gU:Nat} {es:List I4} {n s:Nat} {vo:Value} (h:OnNor w wr gO gU es n s vo) (d:Nat):OnNor w (wr.drewN d) gO gU es n s vo:=
 ⟨h.1.drewN d,h.2.1.drewN d,owns_below h.2.2.1 (below_dN d),bel_trans h.2.2.2.1 (below_dN d),h.2.2.2.2⟩


theorem ints_of_row {w:World} {B n c:Nat} {a:Option Addr} {xs:List Int} (h:w.ownsRow B 3 1 (.slice a n c) n (xs.map (Value.int .i64))):Ints .i64 w a n c xs:=by
 have hl:=h.1
 rw [List.length_map,Nat.mul_one] at hl
 rcases h.2 with ⟨h1,h2⟩ | ⟨g,cap,cur,h1,_,_,h3,h4,_⟩
 ·cases h1
  exact ⟨hl,Nat.le_refl _,Nat.zero_le _,.inl rfl⟩
 ·cases h1
  exact Ints.of_owns h
end Go.Proofs.YtifoggpohlegmaaGreatDoor
