/-
  Joined: Meet, SpGo, RqE.
-/
import Derived.Maps.OwnSet
import Derived.Test.YtdojjmkpelgcaaaGreatDoorL36

namespace Go.Proofs.YtdojjmkpelgcaaaGreatDoor
set_option maxRecDepth 100000
open Go.RowKit
set_option linter.unusedVariables false
set_option linter.unusedSimpArgs false

theorem mach_one (c0 c1 c2 : Sl) (m : V4) : (machCells c0.val c1.val c2.val m).all (·.oneCell') = true := rfl
theorem cells_new {w : World} {g t : Nat} {cs : List Value} (h : Blk w g t cs) : ∀ j u, cs[j]? = some u → w.cell? ((⟨g, 0, none⟩ : Addr).add j) = some u := by
 intro j u hj
 rw [Addr.add_mid, Nat.zero_add, h.cell]
 exact hj


theorem own_slice6 {w : World} {B e s n : Nat} {v : Value} {xs : List Value} (h : w.ownsRow B e s v n xs) : ∃ a k c, v = .slice a k c := by
 rcases h.2 with ⟨h1, h2⟩ | ⟨gq, cq, cur, h1, _⟩
 ·exact ⟨none, 0, 0, h1⟩
 ·exact ⟨_, _, _, h1⟩
theorem blk_range {w : World} {g t : Nat} {cs : List Value} (h : Blk w g t cs) : w.rangeAt g 0 cs := fun j v hj => by rw [Nat.zero_add, h.cell]; exact hj

namespace Rq
open Go.RowKit
set_option linter.unusedVariables false
set_option linter.unusedSimpArgs false

def MachAt (w : World) (g : Nat) (cs : Sl × Sl × Sl) (rows : List (List I3)) (m : V4) : Prop :=
 (∃ kv fv bv mv : Value, Blk w g 116 (kv :: (machCells cs.1.val cs.2.1.val cs.2.2.val m ++ [fv, bv, mv]))) ∧ ∀ k, k < 3 → Instrs w (slK cs k).1 (slK cs k).2.1 (slK cs k).2.2 (codeM rows k)
theorem MachAt.below {w w' : World} {g : Nat} {cs : Sl × Sl × Sl} {rows : List (List I3)} {m : V4} (h : MachAt w g cs rows m) (hb : Below w.heap.size w w') : MachAt w' g cs rows m := by
 obtain ⟨⟨kv, fv, bv, mv, h1⟩, h2⟩ := h
 exact ⟨⟨kv, fv, bv, mv, h1.below hb⟩, fun k hk => (h2 k hk).below hb⟩
end Rq
end Go.Proofs.YtdojjmkpelgcaaaGreatDoor
