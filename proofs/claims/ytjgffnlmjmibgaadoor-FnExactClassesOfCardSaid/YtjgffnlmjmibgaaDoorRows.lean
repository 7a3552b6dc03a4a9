/-
  NARROWER THAN 'FOR EVERY INPUT', by the rows' own cells (each row's printed sentence says how): FnRun: laid · FnExactIsWitness: laid · FnExactClassesOf: laid.
  DERIVED. THE GIVEN ROWS OF THIS SEAT. 3 by the template 'for every input the law returns true; each argument reads behind the call as it read before'; 0 by the template 'total and deterministic' (their statements: YtjgffnlmjmibgaaDoorTotals.lean).
  GIVEN WITH THE SEED: the statements are not yours to turn. If you find one false, say at which input.
  Laid BY PROGRAM, IN A SANDBOX (cutbox-rows.mjs): the forced cells as the released guide's own fill.sh prints them over the translation 90990fc385278803… (all of the seat's roots in one cut). By AI agents, Wed Nov 11 2026. No macro, syntax, notation, axiom, sorry.
-/
import Derived.Test.YtjgffnlmjmibgaaDoorChecked
import GoSem.Claim
import GoSem.ClaimJoined
import GoSem.ClaimMapViews
import Derived.JoinedTies
import Derived.KernelRfl
namespace Go.Proofs.YtjgffnlmjmibgaaDoor
/- THE CELL 'sum', in the pinned program and in every row, IS THE sha256 OF THE DUMP (.gsa) THAT YtjgffnlmjmibgaaDoorProg.lean LOADS. Nothing in Lean hashes anything: it is a label: what it is worth is what the hold of that sum in a sandbox is worth. -/
noncomputable def Tryd.pinned : Pinned := { name := "ytjgffnlmjmibgaadoor", sum := "90990fc3852788039379db682430b428aa8f1c96d5c4b68b843a4827d4fab16f", checked := Tryd.checked }
namespace Rows
def none {H : Type} : Left H := { results := [], args := [] }

/- WHAT THE LISTED PACKAGE-LEVEL VARIABLES READ AS WHEN THE CALL BEGINS. Each datum BY PROGRAM (the guide's laid-datum.mjs) off the statement by which the dump's own 'gosem.cut.vars' lays the variable. In a bare row this is a premise. The card (YtjgffnlmjmibgaaDoorCards.lean) ties it to the program's text. -/
def laid_loop_example_g00632_impl_vmShape {H : Type} : DataW H := .agg [.agg [.lit (.int .i64 3), .lit (.int .i64 6)], .agg [.lit (.int .i64 4), .lit (.int .i64 9)], .agg [.lit (.int .i64 2), .lit (.int .i64 3)], .agg [.lit (.int .i64 6), .lit (.int .i64 9)]]

/-- 'laws.FnRun': WHATEVER THE INPUT: true; the input reads as it did. -/
def fnRunSpec : ChangeSpec := { name := "fnRun", vars := ["loop.example/g00632/impl.vmShape"], fn := fun _ => fun
  | [d1, d2, g1] => { results := [.lit (.bool true)], args := [d1, d2], vars := [g1] }
  | _ => none }
def fnRunRow : OpenClaim := { program := "ytjgffnlmjmibgaadoor", sum := "90990fc3852788039379db682430b428aa8f1c96d5c4b68b843a4827d4fab16f", func := "loop.example/g00632/laws.FnRun", spec := "fnRun", unfollowed := true, recurses := true, named := ["loop.example/g00632/impl.vmShape"], apart := false, laid := [("loop.example/g00632/impl.vmShape", laid_loop_example_g00632_impl_vmShape)] }
def FnRunSaid : Prop := fnRunRow.holds Tryd.pinned (OpenSpec.ofChange fnRunSpec)

/-- ITS FALSE NEIGHBOUR: 'it returns false'. Refute it at one input. -/
def fnRunWrong : ChangeSpec := { name := "fnRun", vars := ["loop.example/g00632/impl.vmShape"], fn := fun _ => fun
  | [d1, d2, g1] => { results := [.lit (.bool false)], args := [d1, d2], vars := [g1] }
  | _ => none }
def FnRunWrongFalsely : Prop := fnRunRow.holds Tryd.pinned (OpenSpec.ofChange fnRunWrong)

/-- 'laws.FnExactIsWitness': WHATEVER THE INPUT: true; the input reads as it did. -/
def fnExactIsWitnessSpec : ChangeSpec := { name := "fnExactIsWitness", vars := ["loop.example/g00632/impl.vmShape"], fn := fun _ => fun
  | [d1, d2, d3, g1] => { results := [.lit (.bool true)], args := [d1, d2, d3], vars := [g1] }
  | _ => none }
def fnExactIsWitnessRow : OpenClaim := { program := "ytjgffnlmjmibgaadoor", sum := "90990fc3852788039379db682430b428aa8f1c96d5c4b68b843a4827d4fab16f", func := "loop.example/g00632/laws.FnExactIsWitness", spec := "fnExactIsWitness", unfollowed := true, recurses := true, named := ["loop.example/g00632/impl.vmShape"], apart := false, laid := [("loop.example/g00632/impl.vmShape", laid_loop_example_g00632_impl_vmShape)] }
def FnExactIsWitnessSaid : Prop := fnExactIsWitnessRow.holds Tryd.pinned (OpenSpec.ofChange fnExactIsWitnessSpec)

/-- ITS FALSE NEIGHBOUR: 'it returns false'. Refute it at one input. -/
def fnExactIsWitnessWrong : ChangeSpec := { name := "fnExactIsWitness", vars := ["loop.example/g00632/impl.vmShape"], fn := fun _ => fun
  | [d1, d2, d3, g1] => { results := [.lit (.bool false)], args := [d1, d2, d3], vars := [g1] }
  | _ => none }
def FnExactIsWitnessWrongFalsely : Prop := fnExactIsWitnessRow.holds Tryd.pinned (OpenSpec.ofChange fnExactIsWitnessWrong)

/-- 'laws.FnExactClassesOf': WHATEVER THE INPUT: true; the input reads as it did. -/
def fnExactClassesOfSpec : ChangeSpec := { name := "fnExactClassesOf", vars := ["loop.example/g00632/impl.vmShape"], fn := fun _ => fun
  | [d, g1] => { results := [.lit (.bool true)], args := [d], vars := [g1] }
  | _ => none }
def fnExactClassesOfRow : OpenClaim := { program := "ytjgffnlmjmibgaadoor", sum := "90990fc3852788039379db682430b428aa8f1c96d5c4b68b843a4827d4fab16f", func := "loop.example/g00632/laws.FnExactClassesOf", spec := "fnExactClassesOf", unfollowed := true, recurses := true, named := ["loop.example/g00632/impl.vmShape"], apart := false, laid := [("loop.example/g00632/impl.vmShape", laid_loop_example_g00632_impl_vmShape)] }
def FnExactClassesOfSaid : Prop := fnExactClassesOfRow.holds Tryd.pinned (OpenSpec.ofChange fnExactClassesOfSpec)

/-- ITS FALSE NEIGHBOUR: 'it returns false'. Refute it at one input. -/
def fnExactClassesOfWrong : ChangeSpec := { name := "fnExactClassesOf", vars := ["loop.example/g00632/impl.vmShape"], fn := fun _ => fun
  | [d, g1] => { results := [.lit (.bool false)], args := [d], vars := [g1] }
  | _ => none }
def FnExactClassesOfWrongFalsely : Prop := fnExactClassesOfRow.holds Tryd.pinned (OpenSpec.ofChange fnExactClassesOfWrong)

/- THE SECOND FORM. 'bulk': how many values and letters a reading holds, each counted each time it is reached (what is shared counts as often as it is met; a slice's spare places count too). A statement '..UptoSaid' is the law's where the arguments, and the package variables that the reading takes, are together of bulk at most 1048576: NARROWER than '..Said'. Prove '..Said' where nothing that the law and all that it calls make is longer than what came in: it says more and counts as full. Else prove '..UptoSaid'. A law counts once. -/
mutual
def uptoBulk {H : Type} : DataW H → Nat
  | .lit (.string bytes) => bytes.length + 1
  | .lit _ => 1
  | .nil => 1
  | .ptr d => uptoBulk d + 1
  | .slice elems spare => uptoBulkAll elems + uptoBulkAll spare + 1
  | .agg parts => uptoBulkAll parts + 1
  | .iface _ d => uptoBulk d + 1
  | .map entries => uptoBulkEntries entries + 1
  | .held _ => 1
def uptoBulkAll {H : Type} : List (DataW H) → Nat
  | [] => 0
  | d :: r => uptoBulk d + uptoBulkAll r
def uptoBulkEntries {H : Type} : List (Lit × DataW H) → Nat
  | [] => 0
  | x :: r => uptoBulkEntry x + uptoBulkEntries r
def uptoBulkEntry {H : Type} : Lit × DataW H → Nat
  | (.string bytes, d) => bytes.length + uptoBulk d + 1
  | (_, d) => uptoBulk d + 1
 end
def uptoSmall : (H : Type) → List (DataW H) → Bool := fun _ ds => decide (uptoBulkAll ds ≤ 1048576)
def OpenSpec.upto (s : _root_.Go.ChangeSpec) : _root_.Go.OpenSpec := { _root_.Go.OpenSpec.ofChange s with cond := some uptoSmall }

/-- 'laws.FnRun', WHERE WHAT IT READS IS OF BULK AT MOST 1048576: true; the input reads as it did. -/
def fnRunUptoRow : OpenClaim := { program := "ytjgffnlmjmibgaadoor", sum := "90990fc3852788039379db682430b428aa8f1c96d5c4b68b843a4827d4fab16f", func := "loop.example/g00632/laws.FnRun", spec := "fnRun", unfollowed := true, recurses := true, named := ["loop.example/g00632/impl.vmShape"], apart := false, laid := [("loop.example/g00632/impl.vmShape", laid_loop_example_g00632_impl_vmShape)], narrowed := true }
def FnRunUptoSaid : Prop := fnRunUptoRow.holds Tryd.pinned (OpenSpec.upto fnRunSpec)

/-- 'laws.FnExactIsWitness', WHERE WHAT IT READS IS OF BULK AT MOST 1048576: true; the input reads as it did. -/
def fnExactIsWitnessUptoRow : OpenClaim := { program := "ytjgffnlmjmibgaadoor", sum := "90990fc3852788039379db682430b428aa8f1c96d5c4b68b843a4827d4fab16f", func := "loop.example/g00632/laws.FnExactIsWitness", spec := "fnExactIsWitness", unfollowed := true, recurses := true, named := ["loop.example/g00632/impl.vmShape"], apart := false, laid := [("loop.example/g00632/impl.vmShape", laid_loop_example_g00632_impl_vmShape)], narrowed := true }
def FnExactIsWitnessUptoSaid : Prop := fnExactIsWitnessUptoRow.holds Tryd.pinned (OpenSpec.upto fnExactIsWitnessSpec)

/-- 'laws.FnExactClassesOf', WHERE WHAT IT READS IS OF BULK AT MOST 1048576: true; the input reads as it did. -/
def fnExactClassesOfUptoRow : OpenClaim := { program := "ytjgffnlmjmibgaadoor", sum := "90990fc3852788039379db682430b428aa8f1c96d5c4b68b843a4827d4fab16f", func := "loop.example/g00632/laws.FnExactClassesOf", spec := "fnExactClassesOf", unfollowed := true, recurses := true, named := ["loop.example/g00632/impl.vmShape"], apart := false, laid := [("loop.example/g00632/impl.vmShape", laid_loop_example_g00632_impl_vmShape)], narrowed := true }
def FnExactClassesOfUptoSaid : Prop := fnExactClassesOfUptoRow.holds Tryd.pinned (OpenSpec.upto fnExactClassesOfSpec)

end Rows
end Go.Proofs.YtjgffnlmjmibgaaDoor
