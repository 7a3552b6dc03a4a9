/-
  NARROWER THAN 'FOR EVERY INPUT', by the rows' own cells (each row's printed sentence says how): FnStep: laid · FnKey: laid · FnExactVmOK: laid · FnExactIsDone: laid · FnExactEnabledOf: laid · FnExactStepVm: laid · FnExactIsStuck: laid · FnExactKeyOf: laid · FnExactVmOf: laid · FnExactSameVm: laid.
  DERIVED. THE GIVEN ROWS OF THIS SEAT. 10 by the template 'for every input the law returns true; each argument reads behind the call as it read before'; 0 by the template 'total and deterministic' (their statements: YtiigmlfcffcfmaaDoorTotals.lean).
  GIVEN WITH THE SEED: the statements are not yours to turn. If you find one false, say at which input.
  Laid BY PROGRAM, IN A SANDBOX (cutbox-rows.mjs): the forced cells as the released guide's own fill.sh prints them over the translation 3ff53227204d77d3… (all of the seat's roots in one cut). By AI agents, Wed Nov 11 2026. No macro, syntax, notation, axiom, sorry.
-/
import Derived.Test.YtiigmlfcffcfmaaDoorChecked
import GoSem.Claim
import GoSem.ClaimJoined
import GoSem.ClaimMapViews
import Derived.JoinedTies
import Derived.KernelRfl
namespace Go.Proofs.YtiigmlfcffcfmaaDoor
/- THE CELL 'sum', in the pinned program and in every row, IS THE sha256 OF THE DUMP (.gsa) THAT YtiigmlfcffcfmaaDoorProg.lean LOADS. Nothing in Lean hashes anything: it is a label: what it is worth is what the hold of that sum in a sandbox is worth. -/
noncomputable def Tryd.pinned : Pinned := { name := "ytiigmlfcffcfmaadoor", sum := "3ff53227204d77d30ee815b150efc42c46ae4607d4b49cec0452df66cfb4a17b", checked := Tryd.checked }
namespace Rows
def none {H : Type} : Left H := { results := [], args := [] }

/- WHAT THE LISTED PACKAGE-LEVEL VARIABLES READ AS WHEN THE CALL BEGINS. Each datum BY PROGRAM (the guide's laid-datum.mjs) off the statement by which the dump's own 'gosem.cut.vars' lays the variable. In a bare row this is a premise. The card (YtiigmlfcffcfmaaDoorCards.lean) ties it to the program's text. -/
def laid_loop_example_g00632_impl_vmShape {H : Type} : DataW H := .agg [.agg [.lit (.int .i64 3), .lit (.int .i64 6)], .agg [.lit (.int .i64 4), .lit (.int .i64 9)], .agg [.lit (.int .i64 2), .lit (.int .i64 3)], .agg [.lit (.int .i64 6), .lit (.int .i64 9)]]

/-- 'laws.FnStep': WHATEVER THE INPUT: true; the input reads as it did. -/
def fnStepSpec : ChangeSpec := { name := "fnStep", vars := ["loop.example/g00632/impl.vmShape"], fn := fun _ => fun
  | [d1, d2, g1] => { results := [.lit (.bool true)], args := [d1, d2], vars := [g1] }
  | _ => none }
def fnStepRow : OpenClaim := { program := "ytiigmlfcffcfmaadoor", sum := "3ff53227204d77d30ee815b150efc42c46ae4607d4b49cec0452df66cfb4a17b", func := "loop.example/g00632/laws.FnStep", spec := "fnStep", unfollowed := true, recurses := true, named := ["loop.example/g00632/impl.vmShape"], apart := false, laid := [("loop.example/g00632/impl.vmShape", laid_loop_example_g00632_impl_vmShape)] }
def FnStepSaid : Prop := fnStepRow.holds Tryd.pinned (OpenSpec.ofChange fnStepSpec)

/-- ITS FALSE NEIGHBOUR: 'it returns false'. Refute it at one input. -/
def fnStepWrong : ChangeSpec := { name := "fnStep", vars := ["loop.example/g00632/impl.vmShape"], fn := fun _ => fun
  | [d1, d2, g1] => { results := [.lit (.bool false)], args := [d1, d2], vars := [g1] }
  | _ => none }
def FnStepWrongFalsely : Prop := fnStepRow.holds Tryd.pinned (OpenSpec.ofChange fnStepWrong)

/-- 'laws.FnKey': WHATEVER THE INPUT: true; the input reads as it did. -/
def fnKeySpec : ChangeSpec := { name := "fnKey", vars := ["loop.example/g00632/impl.vmShape"], fn := fun _ => fun
  | [d1, d2, g1] => { results := [.lit (.bool true)], args := [d1, d2], vars := [g1] }
  | _ => none }
def fnKeyRow : OpenClaim := { program := "ytiigmlfcffcfmaadoor", sum := "3ff53227204d77d30ee815b150efc42c46ae4607d4b49cec0452df66cfb4a17b", func := "loop.example/g00632/laws.FnKey", spec := "fnKey", unfollowed := true, recurses := true, named := ["loop.example/g00632/impl.vmShape"], apart := false, laid := [("loop.example/g00632/impl.vmShape", laid_loop_example_g00632_impl_vmShape)] }
def FnKeySaid : Prop := fnKeyRow.holds Tryd.pinned (OpenSpec.ofChange fnKeySpec)

/-- ITS FALSE NEIGHBOUR: 'it returns false'. Refute it at one input. -/
def fnKeyWrong : ChangeSpec := { name := "fnKey", vars := ["loop.example/g00632/impl.vmShape"], fn := fun _ => fun
  | [d1, d2, g1] => { results := [.lit (.bool false)], args := [d1, d2], vars := [g1] }
  | _ => none }
def FnKeyWrongFalsely : Prop := fnKeyRow.holds Tryd.pinned (OpenSpec.ofChange fnKeyWrong)

/-- 'laws.FnExactVmOK': WHATEVER THE INPUT: true; the input reads as it did. -/
def fnExactVmOKSpec : ChangeSpec := { name := "fnExactVmOK", vars := ["loop.example/g00632/impl.vmShape"], fn := fun _ => fun
  | [d1, d2, g1] => { results := [.lit (.bool true)], args := [d1, d2], vars := [g1] }
  | _ => none }
def fnExactVmOKRow : OpenClaim := { program := "ytiigmlfcffcfmaadoor", sum := "3ff53227204d77d30ee815b150efc42c46ae4607d4b49cec0452df66cfb4a17b", func := "loop.example/g00632/laws.FnExactVmOK", spec := "fnExactVmOK", unfollowed := true, recurses := true, named := ["loop.example/g00632/impl.vmShape"], apart := false, laid := [("loop.example/g00632/impl.vmShape", laid_loop_example_g00632_impl_vmShape)] }
def FnExactVmOKSaid : Prop := fnExactVmOKRow.holds Tryd.pinned (OpenSpec.ofChange fnExactVmOKSpec)

/-- ITS FALSE NEIGHBOUR: 'it returns false'. Refute it at one input. -/
def fnExactVmOKWrong : ChangeSpec := { name := "fnExactVmOK", vars := ["loop.example/g00632/impl.vmShape"], fn := fun _ => fun
  | [d1, d2, g1] => { results := [.lit (.bool false)], args := [d1, d2], vars := [g1] }
  | _ => none }
def FnExactVmOKWrongFalsely : Prop := fnExactVmOKRow.holds Tryd.pinned (OpenSpec.ofChange fnExactVmOKWrong)

/-- 'laws.FnExactIsDone': WHATEVER THE INPUT: true; the input reads as it did. -/
def fnExactIsDoneSpec : ChangeSpec := { name := "fnExactIsDone", vars := ["loop.example/g00632/impl.vmShape"], fn := fun _ => fun
  | [d1, d2, d3, g1] => { results := [.lit (.bool true)], args := [d1, d2, d3], vars := [g1] }
  | _ => none }
def fnExactIsDoneRow : OpenClaim := { program := "ytiigmlfcffcfmaadoor", sum := "3ff53227204d77d30ee815b150efc42c46ae4607d4b49cec0452df66cfb4a17b", func := "loop.example/g00632/laws.FnExactIsDone", spec := "fnExactIsDone", unfollowed := true, recurses := true, named := ["loop.example/g00632/impl.vmShape"], apart := false, laid := [("loop.example/g00632/impl.vmShape", laid_loop_example_g00632_impl_vmShape)] }
def FnExactIsDoneSaid : Prop := fnExactIsDoneRow.holds Tryd.pinned (OpenSpec.ofChange fnExactIsDoneSpec)

/-- ITS FALSE NEIGHBOUR: 'it returns false'. Refute it at one input. -/
def fnExactIsDoneWrong : ChangeSpec := { name := "fnExactIsDone", vars := ["loop.example/g00632/impl.vmShape"], fn := fun _ => fun
  | [d1, d2, d3, g1] => { results := [.lit (.bool false)], args := [d1, d2, d3], vars := [g1] }
  | _ => none }
def FnExactIsDoneWrongFalsely : Prop := fnExactIsDoneRow.holds Tryd.pinned (OpenSpec.ofChange fnExactIsDoneWrong)

/-- 'laws.FnExactEnabledOf': WHATEVER THE INPUT: true; the input reads as it did. -/
def fnExactEnabledOfSpec : ChangeSpec := { name := "fnExactEnabledOf", vars := ["loop.example/g00632/impl.vmShape"], fn := fun _ => fun
  | [d1, d2, g1] => { results := [.lit (.bool true)], args := [d1, d2], vars := [g1] }
  | _ => none }
def fnExactEnabledOfRow : OpenClaim := { program := "ytiigmlfcffcfmaadoor", sum := "3ff53227204d77d30ee815b150efc42c46ae4607d4b49cec0452df66cfb4a17b", func := "loop.example/g00632/laws.FnExactEnabledOf", spec := "fnExactEnabledOf", unfollowed := true, recurses := true, named := ["loop.example/g00632/impl.vmShape"], apart := false, laid := [("loop.example/g00632/impl.vmShape", laid_loop_example_g00632_impl_vmShape)] }
def FnExactEnabledOfSaid : Prop := fnExactEnabledOfRow.holds Tryd.pinned (OpenSpec.ofChange fnExactEnabledOfSpec)

/-- ITS FALSE NEIGHBOUR: 'it returns false'. Refute it at one input. -/
def fnExactEnabledOfWrong : ChangeSpec := { name := "fnExactEnabledOf", vars := ["loop.example/g00632/impl.vmShape"], fn := fun _ => fun
  | [d1, d2, g1] => { results := [.lit (.bool false)], args := [d1, d2], vars := [g1] }
  | _ => none }
def FnExactEnabledOfWrongFalsely : Prop := fnExactEnabledOfRow.holds Tryd.pinned (OpenSpec.ofChange fnExactEnabledOfWrong)

/-- 'laws.FnExactStepVm': WHATEVER THE INPUT: true; the input reads as it did. -/
def fnExactStepVmSpec : ChangeSpec := { name := "fnExactStepVm", vars := ["loop.example/g00632/impl.vmShape"], fn := fun _ => fun
  | [d1, d2, d3, g1] => { results := [.lit (.bool true)], args := [d1, d2, d3], vars := [g1] }
  | _ => none }
def fnExactStepVmRow : OpenClaim := { program := "ytiigmlfcffcfmaadoor", sum := "3ff53227204d77d30ee815b150efc42c46ae4607d4b49cec0452df66cfb4a17b", func := "loop.example/g00632/laws.FnExactStepVm", spec := "fnExactStepVm", unfollowed := true, recurses := true, named := ["loop.example/g00632/impl.vmShape"], apart := false, laid := [("loop.example/g00632/impl.vmShape", laid_loop_example_g00632_impl_vmShape)] }
def FnExactStepVmSaid : Prop := fnExactStepVmRow.holds Tryd.pinned (OpenSpec.ofChange fnExactStepVmSpec)

/-- ITS FALSE NEIGHBOUR: 'it returns false'. Refute it at one input. -/
def fnExactStepVmWrong : ChangeSpec := { name := "fnExactStepVm", vars := ["loop.example/g00632/impl.vmShape"], fn := fun _ => fun
  | [d1, d2, d3, g1] => { results := [.lit (.bool false)], args := [d1, d2, d3], vars := [g1] }
  | _ => none }
def FnExactStepVmWrongFalsely : Prop := fnExactStepVmRow.holds Tryd.pinned (OpenSpec.ofChange fnExactStepVmWrong)

/-- 'laws.FnExactIsStuck': WHATEVER THE INPUT: true; the input reads as it did. -/
def fnExactIsStuckSpec : ChangeSpec := { name := "fnExactIsStuck", vars := ["loop.example/g00632/impl.vmShape"], fn := fun _ => fun
  | [d1, d2, g1] => { results := [.lit (.bool true)], args := [d1, d2], vars := [g1] }
  | _ => none }
def fnExactIsStuckRow : OpenClaim := { program := "ytiigmlfcffcfmaadoor", sum := "3ff53227204d77d30ee815b150efc42c46ae4607d4b49cec0452df66cfb4a17b", func := "loop.example/g00632/laws.FnExactIsStuck", spec := "fnExactIsStuck", unfollowed := true, recurses := true, named := ["loop.example/g00632/impl.vmShape"], apart := false, laid := [("loop.example/g00632/impl.vmShape", laid_loop_example_g00632_impl_vmShape)] }
def FnExactIsStuckSaid : Prop := fnExactIsStuckRow.holds Tryd.pinned (OpenSpec.ofChange fnExactIsStuckSpec)

/-- ITS FALSE NEIGHBOUR: 'it returns false'. Refute it at one input. -/
def fnExactIsStuckWrong : ChangeSpec := { name := "fnExactIsStuck", vars := ["loop.example/g00632/impl.vmShape"], fn := fun _ => fun
  | [d1, d2, g1] => { results := [.lit (.bool false)], args := [d1, d2], vars := [g1] }
  | _ => none }
def FnExactIsStuckWrongFalsely : Prop := fnExactIsStuckRow.holds Tryd.pinned (OpenSpec.ofChange fnExactIsStuckWrong)

/-- 'laws.FnExactKeyOf': WHATEVER THE INPUT: true; the input reads as it did. -/
def fnExactKeyOfSpec : ChangeSpec := { name := "fnExactKeyOf", vars := ["loop.example/g00632/impl.vmShape"], fn := fun _ => fun
  | [d, g1] => { results := [.lit (.bool true)], args := [d], vars := [g1] }
  | _ => none }
def fnExactKeyOfRow : OpenClaim := { program := "ytiigmlfcffcfmaadoor", sum := "3ff53227204d77d30ee815b150efc42c46ae4607d4b49cec0452df66cfb4a17b", func := "loop.example/g00632/laws.FnExactKeyOf", spec := "fnExactKeyOf", named := ["loop.example/g00632/impl.vmShape"], apart := false, laid := [("loop.example/g00632/impl.vmShape", laid_loop_example_g00632_impl_vmShape)] }
def FnExactKeyOfSaid : Prop := fnExactKeyOfRow.holds Tryd.pinned (OpenSpec.ofChange fnExactKeyOfSpec)

/-- ITS FALSE NEIGHBOUR: 'it returns false'. Refute it at one input. -/
def fnExactKeyOfWrong : ChangeSpec := { name := "fnExactKeyOf", vars := ["loop.example/g00632/impl.vmShape"], fn := fun _ => fun
  | [d, g1] => { results := [.lit (.bool false)], args := [d], vars := [g1] }
  | _ => none }
def FnExactKeyOfWrongFalsely : Prop := fnExactKeyOfRow.holds Tryd.pinned (OpenSpec.ofChange fnExactKeyOfWrong)

/-- 'laws.FnExactVmOf': WHATEVER THE INPUT: true; the input reads as it did. -/
def fnExactVmOfSpec : ChangeSpec := { name := "fnExactVmOf", vars := ["loop.example/g00632/impl.vmShape"], fn := fun _ => fun
  | [d, g1] => { results := [.lit (.bool true)], args := [d], vars := [g1] }
  | _ => none }
def fnExactVmOfRow : OpenClaim := { program := "ytiigmlfcffcfmaadoor", sum := "3ff53227204d77d30ee815b150efc42c46ae4607d4b49cec0452df66cfb4a17b", func := "loop.example/g00632/laws.FnExactVmOf", spec := "fnExactVmOf", named := ["loop.example/g00632/impl.vmShape"], apart := false, laid := [("loop.example/g00632/impl.vmShape", laid_loop_example_g00632_impl_vmShape)] }
def FnExactVmOfSaid : Prop := fnExactVmOfRow.holds Tryd.pinned (OpenSpec.ofChange fnExactVmOfSpec)

/-- ITS FALSE NEIGHBOUR: 'it returns false'. Refute it at one input. -/
def fnExactVmOfWrong : ChangeSpec := { name := "fnExactVmOf", vars := ["loop.example/g00632/impl.vmShape"], fn := fun _ => fun
  | [d, g1] => { results := [.lit (.bool false)], args := [d], vars := [g1] }
  | _ => none }
def FnExactVmOfWrongFalsely : Prop := fnExactVmOfRow.holds Tryd.pinned (OpenSpec.ofChange fnExactVmOfWrong)

/-- 'laws.FnExactSameVm': WHATEVER THE INPUT: true; the input reads as it did. -/
def fnExactSameVmSpec : ChangeSpec := { name := "fnExactSameVm", vars := ["loop.example/g00632/impl.vmShape"], fn := fun _ => fun
  | [d1, d2, g1] => { results := [.lit (.bool true)], args := [d1, d2], vars := [g1] }
  | _ => none }
def fnExactSameVmRow : OpenClaim := { program := "ytiigmlfcffcfmaadoor", sum := "3ff53227204d77d30ee815b150efc42c46ae4607d4b49cec0452df66cfb4a17b", func := "loop.example/g00632/laws.FnExactSameVm", spec := "fnExactSameVm", named := ["loop.example/g00632/impl.vmShape"], apart := false, laid := [("loop.example/g00632/impl.vmShape", laid_loop_example_g00632_impl_vmShape)] }
def FnExactSameVmSaid : Prop := fnExactSameVmRow.holds Tryd.pinned (OpenSpec.ofChange fnExactSameVmSpec)

/-- ITS FALSE NEIGHBOUR: 'it returns false'. Refute it at one input. -/
def fnExactSameVmWrong : ChangeSpec := { name := "fnExactSameVm", vars := ["loop.example/g00632/impl.vmShape"], fn := fun _ => fun
  | [d1, d2, g1] => { results := [.lit (.bool false)], args := [d1, d2], vars := [g1] }
  | _ => none }
def FnExactSameVmWrongFalsely : Prop := fnExactSameVmRow.holds Tryd.pinned (OpenSpec.ofChange fnExactSameVmWrong)

/- THE SECOND FORM. 'bulk': how many values and letters a reading holds, each counted each time it is reached (what is shared counts as often as it is met; a slice's spare places count too). A statement '..UptoSaid' is the law's where the arguments, and the package variables that the reading takes, are together of bulk at most 1048576: NARROWER than '..Said'. Prove '..Said' where nothing that the law and all that it calls make is longer than what came in: it says more and counts as full. Else prove '..UptoSaid'. A law counts once. -/
mutual
def uptoBulk {H : Type} : DataW H → Nat
  | .lit (.string bytes) => bytes.length + 1
  | .lit _ => 1
  | .nil => 1
  | .ptr d => uptoBulk d + 1
  | .slice elems spare => uptoBulkAll elems + uptoBulkAll spare + 1
  | .agg parts => uptoBulkAll parts + 1
  | .iface _ d => uptoBulk d + 1
  | .map entries => uptoBulkEntries entries + 1
  | .held _ => 1
def uptoBulkAll {H : Type} : List (DataW H) → Nat
  | [] => 0
  | d :: r => uptoBulk d + uptoBulkAll r
def uptoBulkEntries {H : Type} : List (Lit × DataW H) → Nat
  | [] => 0
  | x :: r => uptoBulkEntry x + uptoBulkEntries r
def uptoBulkEntry {H : Type} : Lit × DataW H → Nat
  | (.string bytes, d) => bytes.length + uptoBulk d + 1
  | (_, d) => uptoBulk d + 1
 end
def uptoSmall : (H : Type) → List (DataW H) → Bool := fun _ ds => decide (uptoBulkAll ds ≤ 1048576)
def OpenSpec.upto (s : _root_.Go.ChangeSpec) : _root_.Go.OpenSpec := { _root_.Go.OpenSpec.ofChange s with cond := some uptoSmall }

/-- 'laws.FnStep', WHERE WHAT IT READS IS OF BULK AT MOST 1048576: true; the input reads as it did. -/
def fnStepUptoRow : OpenClaim := { program := "ytiigmlfcffcfmaadoor", sum := "3ff53227204d77d30ee815b150efc42c46ae4607d4b49cec0452df66cfb4a17b", func := "loop.example/g00632/laws.FnStep", spec := "fnStep", unfollowed := true, recurses := true, named := ["loop.example/g00632/impl.vmShape"], apart := false, laid := [("loop.example/g00632/impl.vmShape", laid_loop_example_g00632_impl_vmShape)], narrowed := true }
def FnStepUptoSaid : Prop := fnStepUptoRow.holds Tryd.pinned (OpenSpec.upto fnStepSpec)

/-- 'laws.FnKey', WHERE WHAT IT READS IS OF BULK AT MOST 1048576: true; the input reads as it did. -/
def fnKeyUptoRow : OpenClaim := { program := "ytiigmlfcffcfmaadoor", sum := "3ff53227204d77d30ee815b150efc42c46ae4607d4b49cec0452df66cfb4a17b", func := "loop.example/g00632/laws.FnKey", spec := "fnKey", unfollowed := true, recurses := true, named := ["loop.example/g00632/impl.vmShape"], apart := false, laid := [("loop.example/g00632/impl.vmShape", laid_loop_example_g00632_impl_vmShape)], narrowed := true }
def FnKeyUptoSaid : Prop := fnKeyUptoRow.holds Tryd.pinned (OpenSpec.upto fnKeySpec)

/-- 'laws.FnExactVmOK', WHERE WHAT IT READS IS OF BULK AT MOST 1048576: true; the input reads as it did. -/
def fnExactVmOKUptoRow : OpenClaim := { program := "ytiigmlfcffcfmaadoor", sum := "3ff53227204d77d30ee815b150efc42c46ae4607d4b49cec0452df66cfb4a17b", func := "loop.example/g00632/laws.FnExactVmOK", spec := "fnExactVmOK", unfollowed := true, recurses := true, named := ["loop.example/g00632/impl.vmShape"], apart := false, laid := [("loop.example/g00632/impl.vmShape", laid_loop_example_g00632_impl_vmShape)], narrowed := true }
def FnExactVmOKUptoSaid : Prop := fnExactVmOKUptoRow.holds Tryd.pinned (OpenSpec.upto fnExactVmOKSpec)

/-- 'laws.FnExactIsDone', WHERE WHAT IT READS IS OF BULK AT MOST 1048576: true; the input reads as it did. -/
def fnExactIsDoneUptoRow : OpenClaim := { program := "ytiigmlfcffcfmaadoor", sum := "3ff53227204d77d30ee815b150efc42c46ae4607d4b49cec0452df66cfb4a17b", func := "loop.example/g00632/laws.FnExactIsDone", spec := "fnExactIsDone", unfollowed := true, recurses := true, named := ["loop.example/g00632/impl.vmShape"], apart := false, laid := [("loop.example/g00632/impl.vmShape", laid_loop_example_g00632_impl_vmShape)], narrowed := true }
def FnExactIsDoneUptoSaid : Prop := fnExactIsDoneUptoRow.holds Tryd.pinned (OpenSpec.upto fnExactIsDoneSpec)

/-- 'laws.FnExactEnabledOf', WHERE WHAT IT READS IS OF BULK AT MOST 1048576: true; the input reads as it did. -/
def fnExactEnabledOfUptoRow : OpenClaim := { program := "ytiigmlfcffcfmaadoor", sum := "3ff53227204d77d30ee815b150efc42c46ae4607d4b49cec0452df66cfb4a17b", func := "loop.example/g00632/laws.FnExactEnabledOf", spec := "fnExactEnabledOf", unfollowed := true, recurses := true, named := ["loop.example/g00632/impl.vmShape"], apart := false, laid := [("loop.example/g00632/impl.vmShape", laid_loop_example_g00632_impl_vmShape)], narrowed := true }
def FnExactEnabledOfUptoSaid : Prop := fnExactEnabledOfUptoRow.holds Tryd.pinned (OpenSpec.upto fnExactEnabledOfSpec)

/-- 'laws.FnExactStepVm', WHERE WHAT IT READS IS OF BULK AT MOST 1048576: true; the input reads as it did. -/
def fnExactStepVmUptoRow : OpenClaim := { program := "ytiigmlfcffcfmaadoor", sum := "3ff53227204d77d30ee815b150efc42c46ae4607d4b49cec0452df66cfb4a17b", func := "loop.example/g00632/laws.FnExactStepVm", spec := "fnExactStepVm", unfollowed := true, recurses := true, named := ["loop.example/g00632/impl.vmShape"], apart := false, laid := [("loop.example/g00632/impl.vmShape", laid_loop_example_g00632_impl_vmShape)], narrowed := true }
def FnExactStepVmUptoSaid : Prop := fnExactStepVmUptoRow.holds Tryd.pinned (OpenSpec.upto fnExactStepVmSpec)

/-- 'laws.FnExactIsStuck', WHERE WHAT IT READS IS OF BULK AT MOST 1048576: true; the input reads as it did. -/
def fnExactIsStuckUptoRow : OpenClaim := { program := "ytiigmlfcffcfmaadoor", sum := "3ff53227204d77d30ee815b150efc42c46ae4607d4b49cec0452df66cfb4a17b", func := "loop.example/g00632/laws.FnExactIsStuck", spec := "fnExactIsStuck", unfollowed := true, recurses := true, named := ["loop.example/g00632/impl.vmShape"], apart := false, laid := [("loop.example/g00632/impl.vmShape", laid_loop_example_g00632_impl_vmShape)], narrowed := true }
def FnExactIsStuckUptoSaid : Prop := fnExactIsStuckUptoRow.holds Tryd.pinned (OpenSpec.upto fnExactIsStuckSpec)

/-- 'laws.FnExactKeyOf', WHERE WHAT IT READS IS OF BULK AT MOST 1048576: true; the input reads as it did. -/
def fnExactKeyOfUptoRow : OpenClaim := { program := "ytiigmlfcffcfmaadoor", sum := "3ff53227204d77d30ee815b150efc42c46ae4607d4b49cec0452df66cfb4a17b", func := "loop.example/g00632/laws.FnExactKeyOf", spec := "fnExactKeyOf", named := ["loop.example/g00632/impl.vmShape"], apart := false, laid := [("loop.example/g00632/impl.vmShape", laid_loop_example_g00632_impl_vmShape)], narrowed := true }
def FnExactKeyOfUptoSaid : Prop := fnExactKeyOfUptoRow.holds Tryd.pinned (OpenSpec.upto fnExactKeyOfSpec)

/-- 'laws.FnExactVmOf', WHERE WHAT IT READS IS OF BULK AT MOST 1048576: true; the input reads as it did. -/
def fnExactVmOfUptoRow : OpenClaim := { program := "ytiigmlfcffcfmaadoor", sum := "3ff53227204d77d30ee815b150efc42c46ae4607d4b49cec0452df66cfb4a17b", func := "loop.example/g00632/laws.FnExactVmOf", spec := "fnExactVmOf", named := ["loop.example/g00632/impl.vmShape"], apart := false, laid := [("loop.example/g00632/impl.vmShape", laid_loop_example_g00632_impl_vmShape)], narrowed := true }
def FnExactVmOfUptoSaid : Prop := fnExactVmOfUptoRow.holds Tryd.pinned (OpenSpec.upto fnExactVmOfSpec)

/-- 'laws.FnExactSameVm', WHERE WHAT IT READS IS OF BULK AT MOST 1048576: true; the input reads as it did. -/
def fnExactSameVmUptoRow : OpenClaim := { program := "ytiigmlfcffcfmaadoor", sum := "3ff53227204d77d30ee815b150efc42c46ae4607d4b49cec0452df66cfb4a17b", func := "loop.example/g00632/laws.FnExactSameVm", spec := "fnExactSameVm", named := ["loop.example/g00632/impl.vmShape"], apart := false, laid := [("loop.example/g00632/impl.vmShape", laid_loop_example_g00632_impl_vmShape)], narrowed := true }
def FnExactSameVmUptoSaid : Prop := fnExactSameVmUptoRow.holds Tryd.pinned (OpenSpec.upto fnExactSameVmSpec)

end Rows
end Go.Proofs.YtiigmlfcffcfmaaDoor
