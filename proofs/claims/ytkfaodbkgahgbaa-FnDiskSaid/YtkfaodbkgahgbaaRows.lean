/-
  No cell of these rows narrows 'for every input' (looked for: loops, veiled, ifaces, maps, wideKeys, modest, calm, conditions, laid).
  DERIVED. THE GIVEN ROWS OF THIS SEAT. 7 by the template 'for every input the law returns true; each argument reads behind the call as it read before'; 0 by the template 'total and deterministic' (their statements: YtkfaodbkgahgbaaTotals.lean).
  GIVEN WITH THE SEED: the statements are not yours to turn. If you find one false, say at which input.
  Laid BY PROGRAM, IN A SANDBOX (cutbox-rows.mjs): the forced cells as the released guide's own fill.sh prints them over the translation cb9281e24d776d97… (all of the seat's roots in one cut). By AI agents, Wed Nov 11 2026. No macro, syntax, notation, axiom, sorry.
-/
import Derived.Test.YtkfaodbkgahgbaaChecked
import GoSem.Claim
import GoSem.ClaimJoined
import GoSem.ClaimMapViews
import Derived.JoinedTies
import Derived.KernelRfl
namespace Go.Proofs.Ytkfaodbkgahgbaa
/- THE CELL 'sum', in the pinned program and in every row, IS THE sha256 OF THE DUMP (.gsa) THAT YtkfaodbkgahgbaaProg.lean LOADS. Nothing in Lean hashes anything: it is a label: what it is worth is what the hold of that sum in a sandbox is worth. -/
noncomputable def Try.pinned : Pinned := { name := "ytkfaodbkgahgbaa", sum := "cb9281e24d776d97a3c12da67920fc21a8df391f9c962c9e28e36f1c24d22fe6", checked := Try.checked }
namespace Rows
def none {H : Type} : Left H := { results := [], args := [] }

/-- 'laws.FnDisk': WHATEVER THE INPUT: true; the input reads as it did. -/
def fnDiskSpec : ChangeSpec := { name := "fnDisk", fn := fun _ => fun
  | [d1, d2] => { results := [.lit (.bool true)], args := [d1, d2] }
  | _ => none }
def fnDiskRow : OpenClaim := { program := "ytkfaodbkgahgbaa", sum := "cb9281e24d776d97a3c12da67920fc21a8df391f9c962c9e28e36f1c24d22fe6", func := "loop.example/g00632/laws.FnDisk", spec := "fnDisk", apart := false }
def FnDiskSaid : Prop := fnDiskRow.holds Try.pinned (OpenSpec.ofChange fnDiskSpec)

/-- ITS FALSE NEIGHBOUR: 'it returns false'. Refute it at one input. -/
def fnDiskWrong : ChangeSpec := { name := "fnDisk", fn := fun _ => fun
  | [d1, d2] => { results := [.lit (.bool false)], args := [d1, d2] }
  | _ => none }
def FnDiskWrongFalsely : Prop := fnDiskRow.holds Try.pinned (OpenSpec.ofChange fnDiskWrong)

/-- 'laws.FnExactDiskOK': WHATEVER THE INPUT: true; the input reads as it did. -/
def fnExactDiskOKSpec : ChangeSpec := { name := "fnExactDiskOK", fn := fun _ => fun
  | [d] => { results := [.lit (.bool true)], args := [d] }
  | _ => none }
def fnExactDiskOKRow : OpenClaim := { program := "ytkfaodbkgahgbaa", sum := "cb9281e24d776d97a3c12da67920fc21a8df391f9c962c9e28e36f1c24d22fe6", func := "loop.example/g00632/laws.FnExactDiskOK", spec := "fnExactDiskOK", apart := false }
def FnExactDiskOKSaid : Prop := fnExactDiskOKRow.holds Try.pinned (OpenSpec.ofChange fnExactDiskOKSpec)

/-- ITS FALSE NEIGHBOUR: 'it returns false'. Refute it at one input. -/
def fnExactDiskOKWrong : ChangeSpec := { name := "fnExactDiskOK", fn := fun _ => fun
  | [d] => { results := [.lit (.bool false)], args := [d] }
  | _ => none }
def FnExactDiskOKWrongFalsely : Prop := fnExactDiskOKRow.holds Try.pinned (OpenSpec.ofChange fnExactDiskOKWrong)

/-- 'laws.FnExactAppendDisk': WHATEVER THE INPUT: true; the input reads as it did. -/
def fnExactAppendDiskSpec : ChangeSpec := { name := "fnExactAppendDisk", fn := fun _ => fun
  | [d1, d2] => { results := [.lit (.bool true)], args := [d1, d2] }
  | _ => none }
def fnExactAppendDiskRow : OpenClaim := { program := "ytkfaodbkgahgbaa", sum := "cb9281e24d776d97a3c12da67920fc21a8df391f9c962c9e28e36f1c24d22fe6", func := "loop.example/g00632/laws.FnExactAppendDisk", spec := "fnExactAppendDisk", apart := false }
def FnExactAppendDiskSaid : Prop := fnExactAppendDiskRow.holds Try.pinned (OpenSpec.ofChange fnExactAppendDiskSpec)

/-- ITS FALSE NEIGHBOUR: 'it returns false'. Refute it at one input. -/
def fnExactAppendDiskWrong : ChangeSpec := { name := "fnExactAppendDisk", fn := fun _ => fun
  | [d1, d2] => { results := [.lit (.bool false)], args := [d1, d2] }
  | _ => none }
def FnExactAppendDiskWrongFalsely : Prop := fnExactAppendDiskRow.holds Try.pinned (OpenSpec.ofChange fnExactAppendDiskWrong)

/-- 'laws.FnExactFlushDisk': WHATEVER THE INPUT: true; the input reads as it did. -/
def fnExactFlushDiskSpec : ChangeSpec := { name := "fnExactFlushDisk", fn := fun _ => fun
  | [d] => { results := [.lit (.bool true)], args := [d] }
  | _ => none }
def fnExactFlushDiskRow : OpenClaim := { program := "ytkfaodbkgahgbaa", sum := "cb9281e24d776d97a3c12da67920fc21a8df391f9c962c9e28e36f1c24d22fe6", func := "loop.example/g00632/laws.FnExactFlushDisk", spec := "fnExactFlushDisk", apart := false }
def FnExactFlushDiskSaid : Prop := fnExactFlushDiskRow.holds Try.pinned (OpenSpec.ofChange fnExactFlushDiskSpec)

/-- ITS FALSE NEIGHBOUR: 'it returns false'. Refute it at one input. -/
def fnExactFlushDiskWrong : ChangeSpec := { name := "fnExactFlushDisk", fn := fun _ => fun
  | [d] => { results := [.lit (.bool false)], args := [d] }
  | _ => none }
def FnExactFlushDiskWrongFalsely : Prop := fnExactFlushDiskRow.holds Try.pinned (OpenSpec.ofChange fnExactFlushDiskWrong)

/-- 'laws.FnExactCrashDisk': WHATEVER THE INPUT: true; the input reads as it did. -/
def fnExactCrashDiskSpec : ChangeSpec := { name := "fnExactCrashDisk", fn := fun _ => fun
  | [d1, d2] => { results := [.lit (.bool true)], args := [d1, d2] }
  | _ => none }
def fnExactCrashDiskRow : OpenClaim := { program := "ytkfaodbkgahgbaa", sum := "cb9281e24d776d97a3c12da67920fc21a8df391f9c962c9e28e36f1c24d22fe6", func := "loop.example/g00632/laws.FnExactCrashDisk", spec := "fnExactCrashDisk", apart := false }
def FnExactCrashDiskSaid : Prop := fnExactCrashDiskRow.holds Try.pinned (OpenSpec.ofChange fnExactCrashDiskSpec)

/-- ITS FALSE NEIGHBOUR: 'it returns false'. Refute it at one input. -/
def fnExactCrashDiskWrong : ChangeSpec := { name := "fnExactCrashDisk", fn := fun _ => fun
  | [d1, d2] => { results := [.lit (.bool false)], args := [d1, d2] }
  | _ => none }
def FnExactCrashDiskWrongFalsely : Prop := fnExactCrashDiskRow.holds Try.pinned (OpenSpec.ofChange fnExactCrashDiskWrong)

/-- 'laws.FnExactCutDisk': WHATEVER THE INPUT: true; the input reads as it did. -/
def fnExactCutDiskSpec : ChangeSpec := { name := "fnExactCutDisk", fn := fun _ => fun
  | [d1, d2] => { results := [.lit (.bool true)], args := [d1, d2] }
  | _ => none }
def fnExactCutDiskRow : OpenClaim := { program := "ytkfaodbkgahgbaa", sum := "cb9281e24d776d97a3c12da67920fc21a8df391f9c962c9e28e36f1c24d22fe6", func := "loop.example/g00632/laws.FnExactCutDisk", spec := "fnExactCutDisk", apart := false }
def FnExactCutDiskSaid : Prop := fnExactCutDiskRow.holds Try.pinned (OpenSpec.ofChange fnExactCutDiskSpec)

/-- ITS FALSE NEIGHBOUR: 'it returns false'. Refute it at one input. -/
def fnExactCutDiskWrong : ChangeSpec := { name := "fnExactCutDisk", fn := fun _ => fun
  | [d1, d2] => { results := [.lit (.bool false)], args := [d1, d2] }
  | _ => none }
def FnExactCutDiskWrongFalsely : Prop := fnExactCutDiskRow.holds Try.pinned (OpenSpec.ofChange fnExactCutDiskWrong)

/-- 'laws.FnExactReplaceDisk': WHATEVER THE INPUT: true; the input reads as it did. -/
def fnExactReplaceDiskSpec : ChangeSpec := { name := "fnExactReplaceDisk", fn := fun _ => fun
  | [d1, d2] => { results := [.lit (.bool true)], args := [d1, d2] }
  | _ => none }
def fnExactReplaceDiskRow : OpenClaim := { program := "ytkfaodbkgahgbaa", sum := "cb9281e24d776d97a3c12da67920fc21a8df391f9c962c9e28e36f1c24d22fe6", func := "loop.example/g00632/laws.FnExactReplaceDisk", spec := "fnExactReplaceDisk", apart := false }
def FnExactReplaceDiskSaid : Prop := fnExactReplaceDiskRow.holds Try.pinned (OpenSpec.ofChange fnExactReplaceDiskSpec)

/-- ITS FALSE NEIGHBOUR: 'it returns false'. Refute it at one input. -/
def fnExactReplaceDiskWrong : ChangeSpec := { name := "fnExactReplaceDisk", fn := fun _ => fun
  | [d1, d2] => { results := [.lit (.bool false)], args := [d1, d2] }
  | _ => none }
def FnExactReplaceDiskWrongFalsely : Prop := fnExactReplaceDiskRow.holds Try.pinned (OpenSpec.ofChange fnExactReplaceDiskWrong)

/- THE SECOND FORM. 'bulk': how many values and letters a reading holds, each counted each time it is reached (what is shared counts as often as it is met; a slice's spare places count too). A statement '..UptoSaid' is the law's where the arguments, and the package variables that the reading takes, are together of bulk at most 1048576: NARROWER than '..Said'. Prove '..Said' where nothing that the law and all that it calls make is longer than what came in: it says more and counts as full. Else prove '..UptoSaid'. A law counts once. -/
mutual
def uptoBulk {H : Type} : DataW H → Nat
  | .lit (.string bytes) => bytes.length + 1
  | .lit _ => 1
  | .nil => 1
  | .ptr d => uptoBulk d + 1
  | .slice elems spare => uptoBulkAll elems + uptoBulkAll spare + 1
  | .agg parts => uptoBulkAll parts + 1
  | .iface _ d => uptoBulk d + 1
  | .map entries => uptoBulkEntries entries + 1
  | .held _ => 1
def uptoBulkAll {H : Type} : List (DataW H) → Nat
  | [] => 0
  | d :: r => uptoBulk d + uptoBulkAll r
def uptoBulkEntries {H : Type} : List (Lit × DataW H) → Nat
  | [] => 0
  | x :: r => uptoBulkEntry x + uptoBulkEntries r
def uptoBulkEntry {H : Type} : Lit × DataW H → Nat
  | (.string bytes, d) => bytes.length + uptoBulk d + 1
  | (_, d) => uptoBulk d + 1
 end
def uptoSmall : (H : Type) → List (DataW H) → Bool := fun _ ds => decide (uptoBulkAll ds ≤ 1048576)
def OpenSpec.upto (s : _root_.Go.ChangeSpec) : _root_.Go.OpenSpec := { _root_.Go.OpenSpec.ofChange s with cond := some uptoSmall }

/-- 'laws.FnDisk', WHERE WHAT IT READS IS OF BULK AT MOST 1048576: true; the input reads as it did. -/
def fnDiskUptoRow : OpenClaim := { program := "ytkfaodbkgahgbaa", sum := "cb9281e24d776d97a3c12da67920fc21a8df391f9c962c9e28e36f1c24d22fe6", func := "loop.example/g00632/laws.FnDisk", spec := "fnDisk", apart := false, narrowed := true }
def FnDiskUptoSaid : Prop := fnDiskUptoRow.holds Try.pinned (OpenSpec.upto fnDiskSpec)

/-- 'laws.FnExactDiskOK', WHERE WHAT IT READS IS OF BULK AT MOST 1048576: true; the input reads as it did. -/
def fnExactDiskOKUptoRow : OpenClaim := { program := "ytkfaodbkgahgbaa", sum := "cb9281e24d776d97a3c12da67920fc21a8df391f9c962c9e28e36f1c24d22fe6", func := "loop.example/g00632/laws.FnExactDiskOK", spec := "fnExactDiskOK", apart := false, narrowed := true }
def FnExactDiskOKUptoSaid : Prop := fnExactDiskOKUptoRow.holds Try.pinned (OpenSpec.upto fnExactDiskOKSpec)

/-- 'laws.FnExactAppendDisk', WHERE WHAT IT READS IS OF BULK AT MOST 1048576: true; the input reads as it did. -/
def fnExactAppendDiskUptoRow : OpenClaim := { program := "ytkfaodbkgahgbaa", sum := "cb9281e24d776d97a3c12da67920fc21a8df391f9c962c9e28e36f1c24d22fe6", func := "loop.example/g00632/laws.FnExactAppendDisk", spec := "fnExactAppendDisk", apart := false, narrowed := true }
def FnExactAppendDiskUptoSaid : Prop := fnExactAppendDiskUptoRow.holds Try.pinned (OpenSpec.upto fnExactAppendDiskSpec)

/-- 'laws.FnExactFlushDisk', WHERE WHAT IT READS IS OF BULK AT MOST 1048576: true; the input reads as it did. -/
def fnExactFlushDiskUptoRow : OpenClaim := { program := "ytkfaodbkgahgbaa", sum := "cb9281e24d776d97a3c12da67920fc21a8df391f9c962c9e28e36f1c24d22fe6", func := "loop.example/g00632/laws.FnExactFlushDisk", spec := "fnExactFlushDisk", apart := false, narrowed := true }
def FnExactFlushDiskUptoSaid : Prop := fnExactFlushDiskUptoRow.holds Try.pinned (OpenSpec.upto fnExactFlushDiskSpec)

/-- 'laws.FnExactCrashDisk', WHERE WHAT IT READS IS OF BULK AT MOST 1048576: true; the input reads as it did. -/
def fnExactCrashDiskUptoRow : OpenClaim := { program := "ytkfaodbkgahgbaa", sum := "cb9281e24d776d97a3c12da67920fc21a8df391f9c962c9e28e36f1c24d22fe6", func := "loop.example/g00632/laws.FnExactCrashDisk", spec := "fnExactCrashDisk", apart := false, narrowed := true }
def FnExactCrashDiskUptoSaid : Prop := fnExactCrashDiskUptoRow.holds Try.pinned (OpenSpec.upto fnExactCrashDiskSpec)

/-- 'laws.FnExactCutDisk', WHERE WHAT IT READS IS OF BULK AT MOST 1048576: true; the input reads as it did. -/
def fnExactCutDiskUptoRow : OpenClaim := { program := "ytkfaodbkgahgbaa", sum := "cb9281e24d776d97a3c12da67920fc21a8df391f9c962c9e28e36f1c24d22fe6", func := "loop.example/g00632/laws.FnExactCutDisk", spec := "fnExactCutDisk", apart := false, narrowed := true }
def FnExactCutDiskUptoSaid : Prop := fnExactCutDiskUptoRow.holds Try.pinned (OpenSpec.upto fnExactCutDiskSpec)

/-- 'laws.FnExactReplaceDisk', WHERE WHAT IT READS IS OF BULK AT MOST 1048576: true; the input reads as it did. -/
def fnExactReplaceDiskUptoRow : OpenClaim := { program := "ytkfaodbkgahgbaa", sum := "cb9281e24d776d97a3c12da67920fc21a8df391f9c962c9e28e36f1c24d22fe6", func := "loop.example/g00632/laws.FnExactReplaceDisk", spec := "fnExactReplaceDisk", apart := false, narrowed := true }
def FnExactReplaceDiskUptoSaid : Prop := fnExactReplaceDiskUptoRow.holds Try.pinned (OpenSpec.upto fnExactReplaceDiskSpec)

end Rows
end Go.Proofs.Ytkfaodbkgahgbaa
