/-
  Joined: MarkW.
-/
import Derived.Laws.CopyOwn
import Derived.Laws.Tables
import Derived.Test.YthmgampabhbpoaaDoorA24

namespace Go.Proofs.YthmgampabhbpoaaDoor
set_option maxRecDepth 100000
set_option maxHeartbeats 16000000
open Go.RowKit

theorem OwnI.lower9 {w:World} {B B':Nat} {s:Sl} {zs:List Int} (h:OwnI w B s zs) (hB:B'≤B):OwnI w B' s zs:=own_lower h hB
theorem OwnV.lower9 {w:World} {B B':Nat} {s:S4} {m:V4} (h:OwnV w B s m) (hB:B'≤B):OwnV w B' s m:=⟨⟨h.1.1.lower9 hB,h.1.2.1.lower9 hB,h.1.2.2.1.lower9 hB,h.1.2.2.2.lower9 hB⟩,h.2⟩
theorem own_ne_blk9 {w:World} {B e s n g t:Nat} {v:Value} {xs cs:List Value} (h:w.ownsRow B e s v n xs) (hB:Blk w g t cs) (he:e≠t):v.ownBlock≠some g:=by
 rcases h.2 with ⟨rfl,_⟩ | ⟨g',cap,cur,rfl,_,hg,_⟩
 ·simp [Value.ownBlock]
 ·simp only [Value.ownBlock,ne_eq,Option.some.injEq]
  rintro rfl
  unfold Blk at hB
  rw [hg] at hB
  simp at hB
  exact he hB.2
end Go.Proofs.YthmgampabhbpoaaDoor
