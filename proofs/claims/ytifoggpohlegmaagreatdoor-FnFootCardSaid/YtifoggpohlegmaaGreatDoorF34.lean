/-
  Joined: FndS, RunS.
-/
import Derived.Stop.Asserts
import Derived.Recover
import Derived.Shelf.SlSortCmp.Insertion
import Derived.Shelf.SlSortCmp.NoneTotal
import Derived.Shelf.Spec.SlicesGrow
import Derived.Laws.AppendOwnNone
import Derived.Lib.SliceRun
import Derived.Lib.Hide
import Derived.Test.YtifoggpohlegmaaGreatDoorF23

namespace Go.Proofs.YtifoggpohlegmaaGreatDoor
set_option maxRecDepth 100000
set_option maxHeartbeats 16000000
open Go.RowKit
set_option linter.unusedVariables false
set_option linter.unusedSimpArgs false

theorem goM_nat (rows:List (List I3)) (m:V4) (k:Nat):goM rows m (k:Int)=stepM m (insM rows m k) k:=by unfold goM;rw [Int.toNat_natCast]


theorem ints_cellS {w:World} {a:Option Addr} {n c:Nat} {ks:List Int} (h:Ints .i64 w a n c ks) {i:Nat} (hi:i<n):∃ b off,a=some ⟨b,off,none⟩∧w.cell? ⟨b,off+i,none⟩=some (.int .i64 (ks.getD i 0))∧b<w.heap.size:=by
 obtain ⟨h1,h2,h3,h4⟩:=h
 rcases h4 with h4 | ⟨b,off,ha,hl,hc⟩
 ·omega
 ·exact ⟨b,off,ha,hc i hi,hl⟩

end Go.Proofs.YtifoggpohlegmaaGreatDoor
