/-
  NARROWER THAN 'FOR EVERY INPUT', by the rows' own cells (each row's printed sentence says how): FnCommute: laid · FnNormal: laid · FnAll: laid · FnWitness: laid · FnSleep: laid · FnClasses: laid · FnFoot: laid.
  DERIVED. THE GIVEN ROWS OF THIS SEAT. 7 by the template 'for every input the law returns true; each argument reads behind the call as it read before'; 0 by the template 'total and deterministic' (their statements: YtifoggpohlegmaaGreatDoorTotals.lean).
  GIVEN WITH THE SEED: the statements are not yours to turn. If you find one false, say at which input.
  Laid BY PROGRAM, IN A SANDBOX (cutbox-rows.mjs): the forced cells as the released guide's own fill.sh prints them over the translation 25624402e009c4fa… (all of the seat's roots in one cut). By AI agents, Wed Nov 11 2026. No macro, syntax, notation, axiom, sorry.
-/
import Derived.Test.YtifoggpohlegmaaGreatDoorChecked
import GoSem.Claim
import GoSem.ClaimJoined
import GoSem.ClaimMapViews
import Derived.JoinedTies
import Derived.KernelRfl
namespace Go.Proofs.YtifoggpohlegmaaGreatDoor
/- THE CELL 'sum', in the pinned program and in every row, IS THE sha256 OF THE DUMP (.gsa) THAT YtifoggpohlegmaaGreatDoorProg.lean LOADS. Nothing in Lean hashes anything: it is a label: what it is worth is what the hold of that sum in a sandbox is worth. -/
noncomputable def Tryz.pinned : Pinned := { name := "ytifoggpohlegmaagreatdoor", sum := "25624402e009c4fa01cff693fbb2a23ec8d0af7717f3f0ea191cabce56ff7899", checked := Tryz.checked }
namespace Rows
def none {H : Type} : Left H := { results := [], args := [] }

/- WHAT THE LISTED PACKAGE-LEVEL VARIABLES READ AS WHEN THE CALL BEGINS. Each datum BY PROGRAM (the guide's laid-datum.mjs) off the statement by which the dump's own 'gosem.cut.vars' lays the variable. In a bare row this is a premise. The card (YtifoggpohlegmaaGreatDoorCards.lean) ties it to the program's text. -/
def laid_loop_example_g00632_impl_vmShape {H : Type} : DataW H := .agg [.agg [.lit (.int .i64 3), .lit (.int .i64 6)], .agg [.lit (.int .i64 4), .lit (.int .i64 9)], .agg [.lit (.int .i64 2), .lit (.int .i64 3)], .agg [.lit (.int .i64 6), .lit (.int .i64 9)]]

/-- 'laws.FnCommute': WHATEVER THE INPUT: true; the input reads as it did. -/
def fnCommuteSpec : ChangeSpec := { name := "fnCommute", vars := ["loop.example/g00632/impl.vmShape"], fn := fun _ => fun
  | [d1, d2, g1] => { results := [.lit (.bool true)], args := [d1, d2], vars := [g1] }
  | _ => none }
def fnCommuteRow : OpenClaim := { program := "ytifoggpohlegmaagreatdoor", sum := "25624402e009c4fa01cff693fbb2a23ec8d0af7717f3f0ea191cabce56ff7899", func := "loop.example/g00632/laws.FnCommute", spec := "fnCommute", unfollowed := true, recurses := true, named := ["loop.example/g00632/impl.vmShape"], apart := false, laid := [("loop.example/g00632/impl.vmShape", laid_loop_example_g00632_impl_vmShape)] }
def FnCommuteSaid : Prop := fnCommuteRow.holds Tryz.pinned (OpenSpec.ofChange fnCommuteSpec)

/-- ITS FALSE NEIGHBOUR: 'it returns false'. Refute it at one input. -/
def fnCommuteWrong : ChangeSpec := { name := "fnCommute", vars := ["loop.example/g00632/impl.vmShape"], fn := fun _ => fun
  | [d1, d2, g1] => { results := [.lit (.bool false)], args := [d1, d2], vars := [g1] }
  | _ => none }
def FnCommuteWrongFalsely : Prop := fnCommuteRow.holds Tryz.pinned (OpenSpec.ofChange fnCommuteWrong)

/-- 'laws.FnNormal': WHATEVER THE INPUT: true; the input reads as it did. -/
def fnNormalSpec : ChangeSpec := { name := "fnNormal", vars := ["loop.example/g00632/impl.vmShape"], fn := fun _ => fun
  | [d1, d2, g1] => { results := [.lit (.bool true)], args := [d1, d2], vars := [g1] }
  | _ => none }
def fnNormalRow : OpenClaim := { program := "ytifoggpohlegmaagreatdoor", sum := "25624402e009c4fa01cff693fbb2a23ec8d0af7717f3f0ea191cabce56ff7899", func := "loop.example/g00632/laws.FnNormal", spec := "fnNormal", unfollowed := true, recurses := true, named := ["loop.example/g00632/impl.vmShape"], apart := false, laid := [("loop.example/g00632/impl.vmShape", laid_loop_example_g00632_impl_vmShape)] }
def FnNormalSaid : Prop := fnNormalRow.holds Tryz.pinned (OpenSpec.ofChange fnNormalSpec)

/-- ITS FALSE NEIGHBOUR: 'it returns false'. Refute it at one input. -/
def fnNormalWrong : ChangeSpec := { name := "fnNormal", vars := ["loop.example/g00632/impl.vmShape"], fn := fun _ => fun
  | [d1, d2, g1] => { results := [.lit (.bool false)], args := [d1, d2], vars := [g1] }
  | _ => none }
def FnNormalWrongFalsely : Prop := fnNormalRow.holds Tryz.pinned (OpenSpec.ofChange fnNormalWrong)

/-- 'laws.FnAll': WHATEVER THE INPUT: true; the input reads as it did. -/
def fnAllSpec : ChangeSpec := { name := "fnAll", vars := ["loop.example/g00632/impl.vmShape"], fn := fun _ => fun
  | [d1, d2, g1] => { results := [.lit (.bool true)], args := [d1, d2], vars := [g1] }
  | _ => none }
def fnAllRow : OpenClaim := { program := "ytifoggpohlegmaagreatdoor", sum := "25624402e009c4fa01cff693fbb2a23ec8d0af7717f3f0ea191cabce56ff7899", func := "loop.example/g00632/laws.FnAll", spec := "fnAll", unfollowed := true, recurses := true, named := ["loop.example/g00632/impl.vmShape"], apart := false, laid := [("loop.example/g00632/impl.vmShape", laid_loop_example_g00632_impl_vmShape)] }
def FnAllSaid : Prop := fnAllRow.holds Tryz.pinned (OpenSpec.ofChange fnAllSpec)

/-- ITS FALSE NEIGHBOUR: 'it returns false'. Refute it at one input. -/
def fnAllWrong : ChangeSpec := { name := "fnAll", vars := ["loop.example/g00632/impl.vmShape"], fn := fun _ => fun
  | [d1, d2, g1] => { results := [.lit (.bool false)], args := [d1, d2], vars := [g1] }
  | _ => none }
def FnAllWrongFalsely : Prop := fnAllRow.holds Tryz.pinned (OpenSpec.ofChange fnAllWrong)

/-- 'laws.FnWitness': WHATEVER THE INPUT: true; the input reads as it did. -/
def fnWitnessSpec : ChangeSpec := { name := "fnWitness", vars := ["loop.example/g00632/impl.vmShape"], fn := fun _ => fun
  | [d1, d2, g1] => { results := [.lit (.bool true)], args := [d1, d2], vars := [g1] }
  | _ => none }
def fnWitnessRow : OpenClaim := { program := "ytifoggpohlegmaagreatdoor", sum := "25624402e009c4fa01cff693fbb2a23ec8d0af7717f3f0ea191cabce56ff7899", func := "loop.example/g00632/laws.FnWitness", spec := "fnWitness", unfollowed := true, recurses := true, named := ["loop.example/g00632/impl.vmShape"], apart := false, laid := [("loop.example/g00632/impl.vmShape", laid_loop_example_g00632_impl_vmShape)] }
def FnWitnessSaid : Prop := fnWitnessRow.holds Tryz.pinned (OpenSpec.ofChange fnWitnessSpec)

/-- ITS FALSE NEIGHBOUR: 'it returns false'. Refute it at one input. -/
def fnWitnessWrong : ChangeSpec := { name := "fnWitness", vars := ["loop.example/g00632/impl.vmShape"], fn := fun _ => fun
  | [d1, d2, g1] => { results := [.lit (.bool false)], args := [d1, d2], vars := [g1] }
  | _ => none }
def FnWitnessWrongFalsely : Prop := fnWitnessRow.holds Tryz.pinned (OpenSpec.ofChange fnWitnessWrong)

/-- 'laws.FnSleep': WHATEVER THE INPUT: true; the input reads as it did. -/
def fnSleepSpec : ChangeSpec := { name := "fnSleep", vars := ["loop.example/g00632/impl.vmShape"], fn := fun _ => fun
  | [d1, d2, g1] => { results := [.lit (.bool true)], args := [d1, d2], vars := [g1] }
  | _ => none }
def fnSleepRow : OpenClaim := { program := "ytifoggpohlegmaagreatdoor", sum := "25624402e009c4fa01cff693fbb2a23ec8d0af7717f3f0ea191cabce56ff7899", func := "loop.example/g00632/laws.FnSleep", spec := "fnSleep", unfollowed := true, recurses := true, named := ["loop.example/g00632/impl.vmShape"], apart := false, laid := [("loop.example/g00632/impl.vmShape", laid_loop_example_g00632_impl_vmShape)] }
def FnSleepSaid : Prop := fnSleepRow.holds Tryz.pinned (OpenSpec.ofChange fnSleepSpec)

/-- ITS FALSE NEIGHBOUR: 'it returns false'. Refute it at one input. -/
def fnSleepWrong : ChangeSpec := { name := "fnSleep", vars := ["loop.example/g00632/impl.vmShape"], fn := fun _ => fun
  | [d1, d2, g1] => { results := [.lit (.bool false)], args := [d1, d2], vars := [g1] }
  | _ => none }
def FnSleepWrongFalsely : Prop := fnSleepRow.holds Tryz.pinned (OpenSpec.ofChange fnSleepWrong)

/-- 'laws.FnClasses': WHATEVER THE INPUT: true; the input reads as it did. -/
def fnClassesSpec : ChangeSpec := { name := "fnClasses", vars := ["loop.example/g00632/impl.vmShape"], fn := fun _ => fun
  | [d, g1] => { results := [.lit (.bool true)], args := [d], vars := [g1] }
  | _ => none }
def fnClassesRow : OpenClaim := { program := "ytifoggpohlegmaagreatdoor", sum := "25624402e009c4fa01cff693fbb2a23ec8d0af7717f3f0ea191cabce56ff7899", func := "loop.example/g00632/laws.FnClasses", spec := "fnClasses", unfollowed := true, recurses := true, named := ["loop.example/g00632/impl.vmShape"], apart := false, laid := [("loop.example/g00632/impl.vmShape", laid_loop_example_g00632_impl_vmShape)] }
def FnClassesSaid : Prop := fnClassesRow.holds Tryz.pinned (OpenSpec.ofChange fnClassesSpec)

/-- ITS FALSE NEIGHBOUR: 'it returns false'. Refute it at one input. -/
def fnClassesWrong : ChangeSpec := { name := "fnClasses", vars := ["loop.example/g00632/impl.vmShape"], fn := fun _ => fun
  | [d, g1] => { results := [.lit (.bool false)], args := [d], vars := [g1] }
  | _ => none }
def FnClassesWrongFalsely : Prop := fnClassesRow.holds Tryz.pinned (OpenSpec.ofChange fnClassesWrong)

/-- 'laws.FnFoot': WHATEVER THE INPUT: true; the input reads as it did. -/
def fnFootSpec : ChangeSpec := { name := "fnFoot", vars := ["loop.example/g00632/impl.vmShape"], fn := fun _ => fun
  | [d1, d2, g1] => { results := [.lit (.bool true)], args := [d1, d2], vars := [g1] }
  | _ => none }
def fnFootRow : OpenClaim := { program := "ytifoggpohlegmaagreatdoor", sum := "25624402e009c4fa01cff693fbb2a23ec8d0af7717f3f0ea191cabce56ff7899", func := "loop.example/g00632/laws.FnFoot", spec := "fnFoot", unfollowed := true, recurses := true, named := ["loop.example/g00632/impl.vmShape"], apart := false, laid := [("loop.example/g00632/impl.vmShape", laid_loop_example_g00632_impl_vmShape)] }
def FnFootSaid : Prop := fnFootRow.holds Tryz.pinned (OpenSpec.ofChange fnFootSpec)

/-- ITS FALSE NEIGHBOUR: 'it returns false'. Refute it at one input. -/
def fnFootWrong : ChangeSpec := { name := "fnFoot", vars := ["loop.example/g00632/impl.vmShape"], fn := fun _ => fun
  | [d1, d2, g1] => { results := [.lit (.bool false)], args := [d1, d2], vars := [g1] }
  | _ => none }
def FnFootWrongFalsely : Prop := fnFootRow.holds Tryz.pinned (OpenSpec.ofChange fnFootWrong)

/- THE SECOND FORM. 'bulk': how many values and letters a reading holds, each counted each time it is reached (what is shared counts as often as it is met; a slice's spare places count too). A statement '..UptoSaid' is the law's where the arguments, and the package variables that the reading takes, are together of bulk at most 1048576: NARROWER than '..Said'. Prove '..Said' where nothing that the law and all that it calls make is longer than what came in: it says more and counts as full. Else prove '..UptoSaid'. A law counts once. -/
mutual
def uptoBulk {H : Type} : DataW H → Nat
  | .lit (.string bytes) => bytes.length + 1
  | .lit _ => 1
  | .nil => 1
  | .ptr d => uptoBulk d + 1
  | .slice elems spare => uptoBulkAll elems + uptoBulkAll spare + 1
  | .agg parts => uptoBulkAll parts + 1
  | .iface _ d => uptoBulk d + 1
  | .map entries => uptoBulkEntries entries + 1
  | .held _ => 1
def uptoBulkAll {H : Type} : List (DataW H) → Nat
  | [] => 0
  | d :: r => uptoBulk d + uptoBulkAll r
def uptoBulkEntries {H : Type} : List (Lit × DataW H) → Nat
  | [] => 0
  | x :: r => uptoBulkEntry x + uptoBulkEntries r
def uptoBulkEntry {H : Type} : Lit × DataW H → Nat
  | (.string bytes, d) => bytes.length + uptoBulk d + 1
  | (_, d) => uptoBulk d + 1
 end
def uptoSmall : (H : Type) → List (DataW H) → Bool := fun _ ds => decide (uptoBulkAll ds ≤ 1048576)
def OpenSpec.upto (s : _root_.Go.ChangeSpec) : _root_.Go.OpenSpec := { _root_.Go.OpenSpec.ofChange s with cond := some uptoSmall }

/-- 'laws.FnCommute', WHERE WHAT IT READS IS OF BULK AT MOST 1048576: true; the input reads as it did. -/
def fnCommuteUptoRow : OpenClaim := { program := "ytifoggpohlegmaagreatdoor", sum := "25624402e009c4fa01cff693fbb2a23ec8d0af7717f3f0ea191cabce56ff7899", func := "loop.example/g00632/laws.FnCommute", spec := "fnCommute", unfollowed := true, recurses := true, named := ["loop.example/g00632/impl.vmShape"], apart := false, laid := [("loop.example/g00632/impl.vmShape", laid_loop_example_g00632_impl_vmShape)], narrowed := true }
def FnCommuteUptoSaid : Prop := fnCommuteUptoRow.holds Tryz.pinned (OpenSpec.upto fnCommuteSpec)

/-- 'laws.FnNormal', WHERE WHAT IT READS IS OF BULK AT MOST 1048576: true; the input reads as it did. -/
def fnNormalUptoRow : OpenClaim := { program := "ytifoggpohlegmaagreatdoor", sum := "25624402e009c4fa01cff693fbb2a23ec8d0af7717f3f0ea191cabce56ff7899", func := "loop.example/g00632/laws.FnNormal", spec := "fnNormal", unfollowed := true, recurses := true, named := ["loop.example/g00632/impl.vmShape"], apart := false, laid := [("loop.example/g00632/impl.vmShape", laid_loop_example_g00632_impl_vmShape)], narrowed := true }
def FnNormalUptoSaid : Prop := fnNormalUptoRow.holds Tryz.pinned (OpenSpec.upto fnNormalSpec)

/-- 'laws.FnAll', WHERE WHAT IT READS IS OF BULK AT MOST 1048576: true; the input reads as it did. -/
def fnAllUptoRow : OpenClaim := { program := "ytifoggpohlegmaagreatdoor", sum := "25624402e009c4fa01cff693fbb2a23ec8d0af7717f3f0ea191cabce56ff7899", func := "loop.example/g00632/laws.FnAll", spec := "fnAll", unfollowed := true, recurses := true, named := ["loop.example/g00632/impl.vmShape"], apart := false, laid := [("loop.example/g00632/impl.vmShape", laid_loop_example_g00632_impl_vmShape)], narrowed := true }
def FnAllUptoSaid : Prop := fnAllUptoRow.holds Tryz.pinned (OpenSpec.upto fnAllSpec)

/-- 'laws.FnWitness', WHERE WHAT IT READS IS OF BULK AT MOST 1048576: true; the input reads as it did. -/
def fnWitnessUptoRow : OpenClaim := { program := "ytifoggpohlegmaagreatdoor", sum := "25624402e009c4fa01cff693fbb2a23ec8d0af7717f3f0ea191cabce56ff7899", func := "loop.example/g00632/laws.FnWitness", spec := "fnWitness", unfollowed := true, recurses := true, named := ["loop.example/g00632/impl.vmShape"], apart := false, laid := [("loop.example/g00632/impl.vmShape", laid_loop_example_g00632_impl_vmShape)], narrowed := true }
def FnWitnessUptoSaid : Prop := fnWitnessUptoRow.holds Tryz.pinned (OpenSpec.upto fnWitnessSpec)

/-- 'laws.FnSleep', WHERE WHAT IT READS IS OF BULK AT MOST 1048576: true; the input reads as it did. -/
def fnSleepUptoRow : OpenClaim := { program := "ytifoggpohlegmaagreatdoor", sum := "25624402e009c4fa01cff693fbb2a23ec8d0af7717f3f0ea191cabce56ff7899", func := "loop.example/g00632/laws.FnSleep", spec := "fnSleep", unfollowed := true, recurses := true, named := ["loop.example/g00632/impl.vmShape"], apart := false, laid := [("loop.example/g00632/impl.vmShape", laid_loop_example_g00632_impl_vmShape)], narrowed := true }
def FnSleepUptoSaid : Prop := fnSleepUptoRow.holds Tryz.pinned (OpenSpec.upto fnSleepSpec)

/-- 'laws.FnClasses', WHERE WHAT IT READS IS OF BULK AT MOST 1048576: true; the input reads as it did. -/
def fnClassesUptoRow : OpenClaim := { program := "ytifoggpohlegmaagreatdoor", sum := "25624402e009c4fa01cff693fbb2a23ec8d0af7717f3f0ea191cabce56ff7899", func := "loop.example/g00632/laws.FnClasses", spec := "fnClasses", unfollowed := true, recurses := true, named := ["loop.example/g00632/impl.vmShape"], apart := false, laid := [("loop.example/g00632/impl.vmShape", laid_loop_example_g00632_impl_vmShape)], narrowed := true }
def FnClassesUptoSaid : Prop := fnClassesUptoRow.holds Tryz.pinned (OpenSpec.upto fnClassesSpec)

/-- 'laws.FnFoot', WHERE WHAT IT READS IS OF BULK AT MOST 1048576: true; the input reads as it did. -/
def fnFootUptoRow : OpenClaim := { program := "ytifoggpohlegmaagreatdoor", sum := "25624402e009c4fa01cff693fbb2a23ec8d0af7717f3f0ea191cabce56ff7899", func := "loop.example/g00632/laws.FnFoot", spec := "fnFoot", unfollowed := true, recurses := true, named := ["loop.example/g00632/impl.vmShape"], apart := false, laid := [("loop.example/g00632/impl.vmShape", laid_loop_example_g00632_impl_vmShape)], narrowed := true }
def FnFootUptoSaid : Prop := fnFootUptoRow.holds Tryz.pinned (OpenSpec.upto fnFootSpec)

end Rows
end Go.Proofs.YtifoggpohlegmaaGreatDoor
