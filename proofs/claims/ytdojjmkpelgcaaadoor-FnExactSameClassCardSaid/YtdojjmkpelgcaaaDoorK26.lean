/-
  Joined: Src.
-/
import Derived.Test.YtdojjmkpelgcaaaDoorProg
import Derived.Deep.RegionHeld3
import Derived.KernelRfl
import Derived.Tactics
import Derived.WalkKit
import Derived.WalkSpells
import Derived.WalkLawsBesides
import Derived.RegionTactic
import Derived.BigQuiet
import Derived.Deep.QuietTactic
import Derived.BigRegion
import Derived.Test.YtdojjmkpelgcaaaDoorK01

/-
  The specification's source of choices: byte hands a number from 0 to 255 and goes one place on; nothing but the source's own struct turns.
-/
namespace Go.Proofs.YtdojjmkpelgcaaaDoor
open Go.RowKit

def Src (w : World) (p : Nat) (c : Value) (T : Nat) : Prop := ∃ m sd : Nat, w.heap[p]? = some (.cells #[c, .int .i64 m, .int .i64 sd] 109 (0, 0)) ∧ m ≤ T ∧ sd ≤ 2147483647
def Code (w : World) (p : Nat) (a : Option Addr) (n cap : Nat) : Prop := ∃ zs : List Int, Ints .u8 w a n cap zs ∧ (∀ z ∈ zs, 0 ≤ z ∧ z ≤ 255) ∧ n ≤ 1048576 ∧ ∀ x, a = some x → n ≠ 0 → x.block < p

end Go.Proofs.YtdojjmkpelgcaaaDoor

