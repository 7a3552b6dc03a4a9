/-
  Joined: RunS, CmtQ.
-/
import Derived.Laws.RangeString
import Derived.Laws.RangeAny
import Derived.Laws.Bits
import Derived.Lib.FieldsP
import Derived.Lib.Hide
import Derived.Deep.MidRow
import Derived.Test.YtfpopbbmnbehiaaDoorB18
import Derived.Test.YtfpopbbmnbehiaaDoorB28

namespace Go.Proofs.YtfpopbbmnbehiaaDoor
set_option maxRecDepth 100000
set_option maxHeartbeats 16000000
open Go.RowKit
set_option linter.unusedVariables false
set_option linter.unusedSimpArgs false

theorem foundM_ok {rows:List (List I3)} {m:V4} {k:Int} (hp:progOk rows=true) (hs:shapeOk m=true) (hz:haltM rows m k=0):(∀ x ∈ foundM rows m k,okB x=true)∧(foundM rows m k).length≤2:=by
 have h1:=ownM_ok hp hs hz
 have h2:=ownM_len rows m k
 unfold foundM
 split
 ·refine ⟨fun x hx=>?_,?_⟩
  ·rw [mem_putB] at hx
   rcases hx with hx | hx
   ·exact h1 x hx
   ·subst hx;rfl
  ·have:=putB_len (ownM rows m k) (14,0,0)
   omega
 ·exact ⟨h1,by omega⟩
theorem ints_cellS {w:World} {a:Option Addr} {n c:Nat} {ks:List Int} (h:Ints .i64 w a n c ks) {i:Nat} (hi:i<n):∃ b off,a=some ⟨b,off,none⟩∧w.cell? ⟨b,off+i,none⟩=some (.int .i64 (ks.getD i 0))∧b<w.heap.size:=by
 obtain ⟨h1,h2,h3,h4⟩:=h
 rcases h4 with h4 | ⟨b,off,ha,hl,hc⟩
 ·omega
 ·exact ⟨b,off,ha,hc i hi,hl⟩


theorem halt_go {rows:List (List I3)} {m:V4} {k:Nat} (hk:k<3) (hc:canM rows m k=true):haltM rows m (k:Int)=0:=by
 have hd:=(can_parts hc).1
 unfold haltM
 rw [if_pos (by omega),Int.toNat_natCast]
 simp [hd,hc]
end Go.Proofs.YtfpopbbmnbehiaaDoor
