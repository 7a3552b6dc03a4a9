/-
  Joined: RyI, RpB.
-/
import Derived.Maps.AppendAt
import Derived.Deep.Cut
import Derived.Stop.Asserts
import Derived.Test.YtifoggpohlegmaaGreatDoorF07

namespace Go.Proofs.YtifoggpohlegmaaGreatDoor
set_option maxRecDepth 100000
set_option maxHeartbeats 16000000
namespace Rp
open Go.RowKit
set_option linter.unusedVariables false
set_option linter.unusedSimpArgs false
variable {fv : Value}

def machR (fv c0 c1 c2:Value) (m:V4):List Value:=
 [c0,.int .i64 (m.1.getD 0 0),.int .i64 (m.2.2.2.getD 0 0),.int .i64 (m.2.2.2.getD 1 0),
  c1,.int .i64 (m.1.getD 1 0),.int .i64 (m.2.2.2.getD 2 0),.int .i64 (m.2.2.2.getD 3 0),
  c2,.int .i64 (m.1.getD 2 0),.int .i64 (m.2.2.2.getD 4 0),.int .i64 (m.2.2.2.getD 5 0),
  .int .i64 (m.2.1.getD 0 0),.int .i64 (m.2.1.getD 1 0),.int .i64 (m.2.1.getD 2 0),.int .i64 (m.2.1.getD 3 0),
  .int .i64 (m.2.2.1.getD 0 0),.int .i64 (m.2.2.1.getD 1 0),fv]
section
variable (c0 c1 c2 : Value) (m : V4)
end
section
variable (c0 c1 c2 : Value) (m : V4) (h : LenOk m)
include h
end
def MachAt (fv:Value) (w:World) (g:Nat) (cs:Sl × Sl × Sl) (rows:List (List I3)) (m:V4):Prop:=
 Blk w g 91 (machR fv cs.1.val cs.2.1.val cs.2.2.val m)∧∀ k,k<3→Instrs w (slK cs k).1 (slK cs k).2.1 (slK cs k).2.2 (codeM rows k)
theorem MachAt.below {w w':World} {g:Nat} {cs:Sl × Sl × Sl} {rows:List (List I3)} {m:V4} (h:MachAt fv w g cs rows m) (hb:Below w.heap.size w w'):MachAt fv w' g cs rows m:=⟨h.1.below hb,fun k hk=>(h.2 k hk).below hb⟩
end Rp

open Go.RowKit
set_option linter.unusedVariables false
set_option linter.unusedSimpArgs false

def RunKept (w w':World):Prop:=∀ (j:Nat) (cur:Array Value) (e:TypeId) (fz:Nat × Nat),w.heap[j]?=some (Obj.cells cur e fz)→e≠64→e≠91→w'.heap[j]?=some (Obj.cells cur e fz)
theorem RunKept.refl (w:World):RunKept w w:=fun _ _ _ _ h _ _=>h
theorem RunKept.trans {a b c:World} (h:RunKept a b) (k:RunKept b c):RunKept a c:=fun j cur e fz h0 he h9=>k j cur e fz (h j cur e fz h0 he h9) he h9
theorem RunKept.blk {w w':World} {g t:Nat} {cs:List Value} (h:RunKept w w') (hB:Blk w g t cs) (h1:t≠64) (h2:t≠91):Blk w' g t cs:=h g _ t _ hB h1 h2
end Go.Proofs.YtifoggpohlegmaaGreatDoor
