/-
  Joined: Evs, RyI.
-/
import Derived.Test.YtdojjmkpelgcaaaDoorX11
import Derived.Test.YtdojjmkpelgcaaaDoorX16
import Derived.Test.YtdojjmkpelgcaaaDoorX38

namespace Go.Proofs.YtdojjmkpelgcaaaDoor
set_option maxRecDepth 100000
open Go.RowKit
set_option linter.unusedVariables false
set_option linter.unusedSimpArgs false

def Evs (w : World) (a : Option Addr) (n : Nat) (xs : List I4) : Prop := xs.length = n ∧ n ≤ maxLen ∧ (n = 0 ∨ ∃ g, a = some ⟨g, 0, none⟩ ∧ g < w.heap.size ∧ ∀ t, t < n → w.cell? ⟨g, t * 4, none⟩ = some (.int .i64 (xs.getD t (0, 0, 0, 0)).1) ∧ w.cell? ⟨g, t * 4 + 1, none⟩ = some (.int .i64 (xs.getD t (0, 0, 0, 0)).2.1) ∧ w.cell? ⟨g, t * 4 + 2, none⟩ = some (.int .i64 (xs.getD t (0, 0, 0, 0)).2.2.1) ∧ w.cell? ⟨g, t * 4 + 3, none⟩ = some (.int .i64 (xs.getD t (0, 0, 0, 0)).2.2.2))
theorem Evs.below {w w' : World} {a : Option Addr} {n : Nat} {xs : List I4} (h : Evs w a n xs) (hb : Below w.heap.size w w') : Evs w' a n xs := by
 obtain ⟨h1, h2, h3 | ⟨g, rfl, hl, hc⟩⟩ := h
 ·exact ⟨h1, h2, .inl h3⟩
 ·refine ⟨h1, h2, .inr ⟨g, rfl, Nat.lt_of_lt_of_le hl hb.size, fun t ht => ?_⟩⟩
  obtain ⟨c0, c1, c2, c3⟩ := hc t ht
  exact ⟨(hb.cell (p := ⟨g, _, none⟩) hl).trans c0, (hb.cell (p := ⟨g, _, none⟩) hl).trans c1, (hb.cell (p := ⟨g, _, none⟩) hl).trans c2, (hb.cell (p := ⟨g, _, none⟩) hl).trans c3⟩

namespace Rp
open Go.RowKit
set_option linter.unusedVariables false
set_option linter.unusedSimpArgs false
variable {fv : Value}

def machR (fv c0 c1 c2 : Value) (m : V4) : List Value :=
 [c0, .int .i64 (m.1.getD 0 0), .int .i64 (m.2.2.2.getD 0 0), .int .i64 (m.2.2.2.getD 1 0),
  c1, .int .i64 (m.1.getD 1 0), .int .i64 (m.2.2.2.getD 2 0), .int .i64 (m.2.2.2.getD 3 0),
  c2, .int .i64 (m.1.getD 2 0), .int .i64 (m.2.2.2.getD 4 0), .int .i64 (m.2.2.2.getD 5 0),
  .int .i64 (m.2.1.getD 0 0), .int .i64 (m.2.1.getD 1 0), .int .i64 (m.2.1.getD 2 0), .int .i64 (m.2.1.getD 3 0),
  .int .i64 (m.2.2.1.getD 0 0), .int .i64 (m.2.2.1.getD 1 0), fv]
section
variable (c0 c1 c2 : Value) (m : V4)
end
section
variable (c0 c1 c2 : Value) (m : V4) (h : LenOk m)
include h
end
def MachAt (fv : Value) (w : World) (g : Nat) (cs : Sl × Sl × Sl) (rows : List (List I3)) (m : V4) : Prop :=
 Blk w g 133 (machR fv cs.1.val cs.2.1.val cs.2.2.val m) ∧ ∀ k, k < 3 → Instrs w (slK cs k).1 (slK cs k).2.1 (slK cs k).2.2 (codeM rows k)
theorem MachAt.below {w w' : World} {g : Nat} {cs : Sl × Sl × Sl} {rows : List (List I3)} {m : V4} (h : MachAt fv w g cs rows m) (hb : Below w.heap.size w w') : MachAt fv w' g cs rows m := ⟨h.1.below hb, fun k hk => (h.2 k hk).below hb⟩
end Rp
end Go.Proofs.YtdojjmkpelgcaaaDoor
