/-
  Joined: RdF.
-/
import Derived.Test.YtdopgkbegjfhjaaC27
import Derived.Test.YtdopgkbegjfhjaaC28

namespace Go.Proofs.Ytdopgkbegjfhjaa
set_option maxRecDepth 100000
set_option maxHeartbeats 16000000
open Go.RowKit
set_option linter.unusedVariables false
set_option linter.unusedSimpArgs false

def OwnO (w:World) (B T:Nat) (s:Sl) (zs:List Int):Prop:=zs.length=s.2.1∧s.2.1≤s.2.2∧s.2.2≤maxLen∧(s.1=none→s.2.2=0)∧(s.2.1=0∨∃ g off cs,s.1=some ⟨g,off,none⟩∧B≤g∧g<T∧Blk w g 3 cs∧∀ t,t<s.2.1→cs[off+t]?=some (.int .i64 (zs.getD t 0)))
theorem OwnO.below {w w':World} {B T:Nat} {s:Sl} {zs:List Int} (h:OwnO w B T s zs) (hb:Below w.heap.size w w'):OwnO w' B T s zs:=by
 obtain ⟨h1,h2,h3,h4,h5⟩:=h
 refine ⟨h1,h2,h3,h4,?_⟩
 rcases h5 with h5 | ⟨g,off,cs,e,hg,ht,hB,hc⟩
 ·exact .inl h5
 ·exact .inr ⟨g,off,cs,e,hg,ht,hB.below hb,hc⟩
def OwnF (w:World) (B T:Nat) (s:Sl2) (e:E3):Prop:=w.ownsRow B 33 3 (.slice s.1.1 s.1.2.1 s.1.2.2) e.2.1.length (flat e.2.1)∧(∀ x,(Value.slice s.1.1 s.1.2.1 s.1.2.2).ownBlock=some x→x<T)∧OwnO w B T s.2 e.2.2
theorem OwnF.below {w w':World} {B T:Nat} {s:Sl2} {e:E3} (h:OwnF w B T s e) (hb:Below w.heap.size w w'):OwnF w' B T s e:=⟨owns8 h.1 hb,h.2.1,h.2.2.below hb⟩
end Go.Proofs.Ytdopgkbegjfhjaa
