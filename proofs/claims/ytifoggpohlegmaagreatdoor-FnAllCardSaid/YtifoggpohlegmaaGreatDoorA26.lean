/-
  Joined: EvC, CmtQ.
-/
import Derived.Stop.Asserts
import Derived.Recover
import Derived.Shelf.SlSortCmp.Insertion
import Derived.Shelf.SlSortCmp.NoneTotal
import Derived.Shelf.Spec.SlicesGrow
import Derived.Laws.AppendOwnNone
import Derived.Lib.SliceRun
import Derived.Lib.Hide
import Derived.Deep.MidRow
import Derived.Test.YtifoggpohlegmaaGreatDoorA19

namespace Go.Proofs.YtifoggpohlegmaaGreatDoor
set_option maxRecDepth 100000
set_option maxHeartbeats 16000000
open Go.RowKit
set_option linter.unusedVariables false
set_option linter.unusedSimpArgs false

def evsM (rows:List (List I3)):V4→List Int→List I4
 | _,[]=>[]
 | m,k::ks=>eventM rows m k.toNat::evsM rows (goM rows m k).1 ks
theorem ints_cellE {w:World} {a:Option Addr} {n c:Nat} {ks:List Int} (h:Ints .i64 w a n c ks) {i:Nat} (hi:i<n):∃ b off,a=some ⟨b,off,none⟩∧w.cell? ⟨b,off+i,none⟩=some (.int .i64 (ks.getD i 0))∧b<w.heap.size:=by
 obtain ⟨h1,h2,h3,h4⟩:=h
 rcases h4 with h4 | ⟨b,off,ha,hl,hc⟩
 ·omega
 ·exact ⟨b,off,ha,hc i hi,hl⟩


theorem goM_natC (rows:List (List I3)) (m:V4) (k:Nat):goM rows m (k:Int)=stepM m (insM rows m k) k:=by unfold goM;rw [Int.toNat_natCast]
theorem halt_go {rows:List (List I3)} {m:V4} {k:Nat} (hk:k<3) (hc:canM rows m k=true):haltM rows m (k:Int)=0:=by
 have hd:=(can_parts hc).1
 unfold haltM
 rw [if_pos (by omega),Int.toNat_natCast]
 simp [hd,hc]
theorem runI_cons {rows:List (List I3)} {m:V4} {fs:List I3} {k:Int} {ks:List Int} (h:(runI rows m fs (k::ks)).2.2=0):haltM rows m k=0∧runI rows m fs (k::ks)=runI rows (goM rows m k).1 (fs++ownM rows m k) ks:=by
 have e:runI rows m fs (k::ks)=if haltM rows m k=0 then runI rows (goM rows m k).1 (fs++ownM rows m k) ks else (m,fs,haltM rows m k):=rfl
 by_cases hz:haltM rows m k=0
 ·rw [if_pos hz] at e
  exact ⟨hz,e⟩
 ·rw [e,if_neg hz] at h
  exact absurd h hz
theorem runI_yes {rows:List (List I3)} {m:V4} {fs:List I3} {k:Int} {ks:List Int} (hz:haltM rows m k=0):runI rows m fs (k::ks)=runI rows (goM rows m k).1 (fs++ownM rows m k) ks:=by
 show (if haltM rows m k=0 then _ else _)=_
 rw [if_pos hz]
theorem run_app {rows:List (List I3)}:∀ (pre ks:List Int) (m:V4) (fs:List I3),(runI rows m fs pre).2.2=0→runI rows m fs (pre++ks)=runI rows (runI rows m fs pre).1 (runI rows m fs pre).2.1 ks∧evsM rows m (pre++ks)=evsM rows m pre++evsM rows (runI rows m fs pre).1 ks
 | [],ks,m,fs,_=>⟨rfl,rfl⟩
 | k::pre,ks,m,fs,h=>by
  obtain ⟨h1,e1⟩:=runI_cons h
  rw [e1] at h ⊢
  obtain ⟨i1,i2⟩:=run_app pre ks _ _ h
  rw [List.cons_append,runI_yes h1,i1]
  refine ⟨rfl,?_⟩
  show eventM rows m k.toNat::evsM rows (goM rows m k).1 (pre++ks)=eventM rows m k.toNat::(evsM rows (goM rows m k).1 pre++_)
  rw [i2]
end Go.Proofs.YtifoggpohlegmaaGreatDoor
