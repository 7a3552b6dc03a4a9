/-
  NARROWER THAN 'FOR EVERY INPUT', by the rows' own cells (each row's printed sentence says how): FnAll: laid · FnWitness: laid · FnFoot: laid · FnExactAllBugs: laid · FnExactFootOf: laid.
  DERIVED. THE GIVEN ROWS OF THIS SEAT. 5 by the template 'for every input the law returns true; each argument reads behind the call as it read before'; 0 by the template 'total and deterministic' (their statements: YtfpopbbmnbehiaaGreatDoorTotals.lean).
  GIVEN WITH THE SEED: the statements are not yours to turn. If you find one false, say at which input.
  Laid BY PROGRAM, IN A SANDBOX (cutbox-rows.mjs): the forced cells as the released guide's own fill.sh prints them over the translation caeacf7bef8a6c70… (all of the seat's roots in one cut). By AI agents, Wed Nov 11 2026. No macro, syntax, notation, axiom, sorry.
-/
import Derived.Test.YtfpopbbmnbehiaaGreatDoorChecked
import GoSem.Claim
import GoSem.ClaimJoined
import GoSem.ClaimMapViews
import Derived.JoinedTies
import Derived.KernelRfl
namespace Go.Proofs.YtfpopbbmnbehiaaGreatDoor
/- THE CELL 'sum', in the pinned program and in every row, IS THE sha256 OF THE DUMP (.gsa) THAT YtfpopbbmnbehiaaGreatDoorProg.lean LOADS. Nothing in Lean hashes anything: it is a label: what it is worth is what the hold of that sum in a sandbox is worth. -/
noncomputable def Tryz.pinned : Pinned := { name := "ytfpopbbmnbehiaagreatdoor", sum := "caeacf7bef8a6c706384f597101833feb5f8a2595785991b2f0f330008e1e5aa", checked := Tryz.checked }
namespace Rows
def none {H : Type} : Left H := { results := [], args := [] }

/- WHAT THE LISTED PACKAGE-LEVEL VARIABLES READ AS WHEN THE CALL BEGINS. Each datum BY PROGRAM (the guide's laid-datum.mjs) off the statement by which the dump's own 'gosem.cut.vars' lays the variable. In a bare row this is a premise. The card (YtfpopbbmnbehiaaGreatDoorCards.lean) ties it to the program's text. -/
def laid_loop_example_g00632_impl_vmShape {H : Type} : DataW H := .agg [.agg [.lit (.int .i64 3), .lit (.int .i64 6)], .agg [.lit (.int .i64 4), .lit (.int .i64 9)], .agg [.lit (.int .i64 2), .lit (.int .i64 3)], .agg [.lit (.int .i64 6), .lit (.int .i64 9)]]

/-- 'laws.FnAll': WHATEVER THE INPUT: true; the input reads as it did. -/
def fnAllSpec : ChangeSpec := { name := "fnAll", vars := ["loop.example/g00632/impl.vmShape"], fn := fun _ => fun
  | [d1, d2, g1] => { results := [.lit (.bool true)], args := [d1, d2], vars := [g1] }
  | _ => none }
def fnAllRow : OpenClaim := { program := "ytfpopbbmnbehiaagreatdoor", sum := "caeacf7bef8a6c706384f597101833feb5f8a2595785991b2f0f330008e1e5aa", func := "loop.example/g00632/laws.FnAll", spec := "fnAll", unfollowed := true, recurses := true, named := ["loop.example/g00632/impl.vmShape"], apart := false, laid := [("loop.example/g00632/impl.vmShape", laid_loop_example_g00632_impl_vmShape)] }
def FnAllSaid : Prop := fnAllRow.holds Tryz.pinned (OpenSpec.ofChange fnAllSpec)

/-- ITS FALSE NEIGHBOUR: 'it returns false'. Refute it at one input. -/
def fnAllWrong : ChangeSpec := { name := "fnAll", vars := ["loop.example/g00632/impl.vmShape"], fn := fun _ => fun
  | [d1, d2, g1] => { results := [.lit (.bool false)], args := [d1, d2], vars := [g1] }
  | _ => none }
def FnAllWrongFalsely : Prop := fnAllRow.holds Tryz.pinned (OpenSpec.ofChange fnAllWrong)

/-- 'laws.FnWitness': WHATEVER THE INPUT: true; the input reads as it did. -/
def fnWitnessSpec : ChangeSpec := { name := "fnWitness", vars := ["loop.example/g00632/impl.vmShape"], fn := fun _ => fun
  | [d1, d2, g1] => { results := [.lit (.bool true)], args := [d1, d2], vars := [g1] }
  | _ => none }
def fnWitnessRow : OpenClaim := { program := "ytfpopbbmnbehiaagreatdoor", sum := "caeacf7bef8a6c706384f597101833feb5f8a2595785991b2f0f330008e1e5aa", func := "loop.example/g00632/laws.FnWitness", spec := "fnWitness", unfollowed := true, recurses := true, named := ["loop.example/g00632/impl.vmShape"], apart := false, laid := [("loop.example/g00632/impl.vmShape", laid_loop_example_g00632_impl_vmShape)] }
def FnWitnessSaid : Prop := fnWitnessRow.holds Tryz.pinned (OpenSpec.ofChange fnWitnessSpec)

/-- ITS FALSE NEIGHBOUR: 'it returns false'. Refute it at one input. -/
def fnWitnessWrong : ChangeSpec := { name := "fnWitness", vars := ["loop.example/g00632/impl.vmShape"], fn := fun _ => fun
  | [d1, d2, g1] => { results := [.lit (.bool false)], args := [d1, d2], vars := [g1] }
  | _ => none }
def FnWitnessWrongFalsely : Prop := fnWitnessRow.holds Tryz.pinned (OpenSpec.ofChange fnWitnessWrong)

/-- 'laws.FnFoot': WHATEVER THE INPUT: true; the input reads as it did. -/
def fnFootSpec : ChangeSpec := { name := "fnFoot", vars := ["loop.example/g00632/impl.vmShape"], fn := fun _ => fun
  | [d1, d2, g1] => { results := [.lit (.bool true)], args := [d1, d2], vars := [g1] }
  | _ => none }
def fnFootRow : OpenClaim := { program := "ytfpopbbmnbehiaagreatdoor", sum := "caeacf7bef8a6c706384f597101833feb5f8a2595785991b2f0f330008e1e5aa", func := "loop.example/g00632/laws.FnFoot", spec := "fnFoot", unfollowed := true, recurses := true, named := ["loop.example/g00632/impl.vmShape"], apart := false, laid := [("loop.example/g00632/impl.vmShape", laid_loop_example_g00632_impl_vmShape)] }
def FnFootSaid : Prop := fnFootRow.holds Tryz.pinned (OpenSpec.ofChange fnFootSpec)

/-- ITS FALSE NEIGHBOUR: 'it returns false'. Refute it at one input. -/
def fnFootWrong : ChangeSpec := { name := "fnFoot", vars := ["loop.example/g00632/impl.vmShape"], fn := fun _ => fun
  | [d1, d2, g1] => { results := [.lit (.bool false)], args := [d1, d2], vars := [g1] }
  | _ => none }
def FnFootWrongFalsely : Prop := fnFootRow.holds Tryz.pinned (OpenSpec.ofChange fnFootWrong)

/-- 'laws.FnExactAllBugs': WHATEVER THE INPUT: true; the input reads as it did. -/
def fnExactAllBugsSpec : ChangeSpec := { name := "fnExactAllBugs", vars := ["loop.example/g00632/impl.vmShape"], fn := fun _ => fun
  | [d, g1] => { results := [.lit (.bool true)], args := [d], vars := [g1] }
  | _ => none }
def fnExactAllBugsRow : OpenClaim := { program := "ytfpopbbmnbehiaagreatdoor", sum := "caeacf7bef8a6c706384f597101833feb5f8a2595785991b2f0f330008e1e5aa", func := "loop.example/g00632/laws.FnExactAllBugs", spec := "fnExactAllBugs", unfollowed := true, recurses := true, named := ["loop.example/g00632/impl.vmShape"], apart := false, laid := [("loop.example/g00632/impl.vmShape", laid_loop_example_g00632_impl_vmShape)] }
def FnExactAllBugsSaid : Prop := fnExactAllBugsRow.holds Tryz.pinned (OpenSpec.ofChange fnExactAllBugsSpec)

/-- ITS FALSE NEIGHBOUR: 'it returns false'. Refute it at one input. -/
def fnExactAllBugsWrong : ChangeSpec := { name := "fnExactAllBugs", vars := ["loop.example/g00632/impl.vmShape"], fn := fun _ => fun
  | [d, g1] => { results := [.lit (.bool false)], args := [d], vars := [g1] }
  | _ => none }
def FnExactAllBugsWrongFalsely : Prop := fnExactAllBugsRow.holds Tryz.pinned (OpenSpec.ofChange fnExactAllBugsWrong)

/-- 'laws.FnExactFootOf': WHATEVER THE INPUT: true; the input reads as it did. -/
def fnExactFootOfSpec : ChangeSpec := { name := "fnExactFootOf", vars := ["loop.example/g00632/impl.vmShape"], fn := fun _ => fun
  | [d1, d2, g1] => { results := [.lit (.bool true)], args := [d1, d2], vars := [g1] }
  | _ => none }
def fnExactFootOfRow : OpenClaim := { program := "ytfpopbbmnbehiaagreatdoor", sum := "caeacf7bef8a6c706384f597101833feb5f8a2595785991b2f0f330008e1e5aa", func := "loop.example/g00632/laws.FnExactFootOf", spec := "fnExactFootOf", unfollowed := true, recurses := true, named := ["loop.example/g00632/impl.vmShape"], apart := false, laid := [("loop.example/g00632/impl.vmShape", laid_loop_example_g00632_impl_vmShape)] }
def FnExactFootOfSaid : Prop := fnExactFootOfRow.holds Tryz.pinned (OpenSpec.ofChange fnExactFootOfSpec)

/-- ITS FALSE NEIGHBOUR: 'it returns false'. Refute it at one input. -/
def fnExactFootOfWrong : ChangeSpec := { name := "fnExactFootOf", vars := ["loop.example/g00632/impl.vmShape"], fn := fun _ => fun
  | [d1, d2, g1] => { results := [.lit (.bool false)], args := [d1, d2], vars := [g1] }
  | _ => none }
def FnExactFootOfWrongFalsely : Prop := fnExactFootOfRow.holds Tryz.pinned (OpenSpec.ofChange fnExactFootOfWrong)

/- THE SECOND FORM. 'bulk': how many values and letters a reading holds, each counted each time it is reached (what is shared counts as often as it is met; a slice's spare places count too). A statement '..UptoSaid' is the law's where the arguments, and the package variables that the reading takes, are together of bulk at most 1048576: NARROWER than '..Said'. Prove '..Said' where nothing that the law and all that it calls make is longer than what came in: it says more and counts as full. Else prove '..UptoSaid'. A law counts once. -/
mutual
def uptoBulk {H : Type} : DataW H → Nat
  | .lit (.string bytes) => bytes.length + 1
  | .lit _ => 1
  | .nil => 1
  | .ptr d => uptoBulk d + 1
  | .slice elems spare => uptoBulkAll elems + uptoBulkAll spare + 1
  | .agg parts => uptoBulkAll parts + 1
  | .iface _ d => uptoBulk d + 1
  | .map entries => uptoBulkEntries entries + 1
  | .held _ => 1
def uptoBulkAll {H : Type} : List (DataW H) → Nat
  | [] => 0
  | d :: r => uptoBulk d + uptoBulkAll r
def uptoBulkEntries {H : Type} : List (Lit × DataW H) → Nat
  | [] => 0
  | x :: r => uptoBulkEntry x + uptoBulkEntries r
def uptoBulkEntry {H : Type} : Lit × DataW H → Nat
  | (.string bytes, d) => bytes.length + uptoBulk d + 1
  | (_, d) => uptoBulk d + 1
 end
def uptoSmall : (H : Type) → List (DataW H) → Bool := fun _ ds => decide (uptoBulkAll ds ≤ 1048576)
def OpenSpec.upto (s : _root_.Go.ChangeSpec) : _root_.Go.OpenSpec := { _root_.Go.OpenSpec.ofChange s with cond := some uptoSmall }

/-- 'laws.FnAll', WHERE WHAT IT READS IS OF BULK AT MOST 1048576: true; the input reads as it did. -/
def fnAllUptoRow : OpenClaim := { program := "ytfpopbbmnbehiaagreatdoor", sum := "caeacf7bef8a6c706384f597101833feb5f8a2595785991b2f0f330008e1e5aa", func := "loop.example/g00632/laws.FnAll", spec := "fnAll", unfollowed := true, recurses := true, named := ["loop.example/g00632/impl.vmShape"], apart := false, laid := [("loop.example/g00632/impl.vmShape", laid_loop_example_g00632_impl_vmShape)], narrowed := true }
def FnAllUptoSaid : Prop := fnAllUptoRow.holds Tryz.pinned (OpenSpec.upto fnAllSpec)

/-- 'laws.FnWitness', WHERE WHAT IT READS IS OF BULK AT MOST 1048576: true; the input reads as it did. -/
def fnWitnessUptoRow : OpenClaim := { program := "ytfpopbbmnbehiaagreatdoor", sum := "caeacf7bef8a6c706384f597101833feb5f8a2595785991b2f0f330008e1e5aa", func := "loop.example/g00632/laws.FnWitness", spec := "fnWitness", unfollowed := true, recurses := true, named := ["loop.example/g00632/impl.vmShape"], apart := false, laid := [("loop.example/g00632/impl.vmShape", laid_loop_example_g00632_impl_vmShape)], narrowed := true }
def FnWitnessUptoSaid : Prop := fnWitnessUptoRow.holds Tryz.pinned (OpenSpec.upto fnWitnessSpec)

/-- 'laws.FnFoot', WHERE WHAT IT READS IS OF BULK AT MOST 1048576: true; the input reads as it did. -/
def fnFootUptoRow : OpenClaim := { program := "ytfpopbbmnbehiaagreatdoor", sum := "caeacf7bef8a6c706384f597101833feb5f8a2595785991b2f0f330008e1e5aa", func := "loop.example/g00632/laws.FnFoot", spec := "fnFoot", unfollowed := true, recurses := true, named := ["loop.example/g00632/impl.vmShape"], apart := false, laid := [("loop.example/g00632/impl.vmShape", laid_loop_example_g00632_impl_vmShape)], narrowed := true }
def FnFootUptoSaid : Prop := fnFootUptoRow.holds Tryz.pinned (OpenSpec.upto fnFootSpec)

/-- 'laws.FnExactAllBugs', WHERE WHAT IT READS IS OF BULK AT MOST 1048576: true; the input reads as it did. -/
def fnExactAllBugsUptoRow : OpenClaim := { program := "ytfpopbbmnbehiaagreatdoor", sum := "caeacf7bef8a6c706384f597101833feb5f8a2595785991b2f0f330008e1e5aa", func := "loop.example/g00632/laws.FnExactAllBugs", spec := "fnExactAllBugs", unfollowed := true, recurses := true, named := ["loop.example/g00632/impl.vmShape"], apart := false, laid := [("loop.example/g00632/impl.vmShape", laid_loop_example_g00632_impl_vmShape)], narrowed := true }
def FnExactAllBugsUptoSaid : Prop := fnExactAllBugsUptoRow.holds Tryz.pinned (OpenSpec.upto fnExactAllBugsSpec)

/-- 'laws.FnExactFootOf', WHERE WHAT IT READS IS OF BULK AT MOST 1048576: true; the input reads as it did. -/
def fnExactFootOfUptoRow : OpenClaim := { program := "ytfpopbbmnbehiaagreatdoor", sum := "caeacf7bef8a6c706384f597101833feb5f8a2595785991b2f0f330008e1e5aa", func := "loop.example/g00632/laws.FnExactFootOf", spec := "fnExactFootOf", unfollowed := true, recurses := true, named := ["loop.example/g00632/impl.vmShape"], apart := false, laid := [("loop.example/g00632/impl.vmShape", laid_loop_example_g00632_impl_vmShape)], narrowed := true }
def FnExactFootOfUptoSaid : Prop := fnExactFootOfUptoRow.holds Tryz.pinned (OpenSpec.upto fnExactFootOfSpec)

end Rows
end Go.Proofs.YtfpopbbmnbehiaaGreatDoor
