/-
  NARROWER THAN 'FOR EVERY INPUT', by the rows' own cells (each row's printed sentence says how): FnNext: laid · FnExactNormalOf: laid · FnExactSameClass: laid · FnExactNextEvent: laid · FnExactStillSleeps: laid · FnExactClassesOf: laid.
  DERIVED. THE GIVEN ROWS OF THIS SEAT. 6 by the template 'for every input the law returns true; each argument reads behind the call as it read before'; 0 by the template 'total and deterministic' (their statements: YtdojjmkpelgcaaaDoorTotals.lean).
  GIVEN WITH THE SEED: the statements are not yours to turn. If you find one false, say at which input.
  Laid BY PROGRAM, IN A SANDBOX (cutbox-rows.mjs): the forced cells as the released guide's own fill.sh prints them over the translation 23dd019a2b54ed1a… (all of the seat's roots in one cut). By AI agents, Wed Nov 11 2026. No macro, syntax, notation, axiom, sorry.
-/
import Derived.Test.YtdojjmkpelgcaaaDoorChecked
import GoSem.Claim
import GoSem.ClaimJoined
import GoSem.ClaimMapViews
import Derived.JoinedTies
import Derived.KernelRfl
namespace Go.Proofs.YtdojjmkpelgcaaaDoor
/- THE CELL 'sum', in the pinned program and in every row, IS THE sha256 OF THE DUMP (.gsa) THAT YtdojjmkpelgcaaaDoorProg.lean LOADS. Nothing in Lean hashes anything: it is a label: what it is worth is what the hold of that sum in a sandbox is worth. -/
noncomputable def Tryd.pinned : Pinned := { name := "ytdojjmkpelgcaaadoor", sum := "23dd019a2b54ed1ac07137dacc3d69e9385f7cb4230ec0e73910c1b8ba0bf5ae", checked := Tryd.checked }
namespace Rows
def none {H : Type} : Left H := { results := [], args := [] }

/- WHAT THE LISTED PACKAGE-LEVEL VARIABLES READ AS WHEN THE CALL BEGINS. Each datum BY PROGRAM (the guide's laid-datum.mjs) off the statement by which the dump's own 'gosem.cut.vars' lays the variable. In a bare row this is a premise. The card (YtdojjmkpelgcaaaDoorCards.lean) ties it to the program's text. -/
def laid_loop_example_g00632_impl_vmShape {H : Type} : DataW H := .agg [.agg [.lit (.int .i64 3), .lit (.int .i64 6)], .agg [.lit (.int .i64 4), .lit (.int .i64 9)], .agg [.lit (.int .i64 2), .lit (.int .i64 3)], .agg [.lit (.int .i64 6), .lit (.int .i64 9)]]

/-- 'laws.FnNext': WHATEVER THE INPUT: true; the input reads as it did. -/
def fnNextSpec : ChangeSpec := { name := "fnNext", vars := ["loop.example/g00632/impl.vmShape"], fn := fun _ => fun
  | [d1, d2, g1] => { results := [.lit (.bool true)], args := [d1, d2], vars := [g1] }
  | _ => none }
def fnNextRow : OpenClaim := { program := "ytdojjmkpelgcaaadoor", sum := "23dd019a2b54ed1ac07137dacc3d69e9385f7cb4230ec0e73910c1b8ba0bf5ae", func := "loop.example/g00632/laws.FnNext", spec := "fnNext", unfollowed := true, recurses := true, named := ["loop.example/g00632/impl.vmShape"], apart := false, laid := [("loop.example/g00632/impl.vmShape", laid_loop_example_g00632_impl_vmShape)] }
def FnNextSaid : Prop := fnNextRow.holds Tryd.pinned (OpenSpec.ofChange fnNextSpec)

/-- ITS FALSE NEIGHBOUR: 'it returns false'. Refute it at one input. -/
def fnNextWrong : ChangeSpec := { name := "fnNext", vars := ["loop.example/g00632/impl.vmShape"], fn := fun _ => fun
  | [d1, d2, g1] => { results := [.lit (.bool false)], args := [d1, d2], vars := [g1] }
  | _ => none }
def FnNextWrongFalsely : Prop := fnNextRow.holds Tryd.pinned (OpenSpec.ofChange fnNextWrong)

/-- 'laws.FnExactNormalOf': WHATEVER THE INPUT: true; the input reads as it did. -/
def fnExactNormalOfSpec : ChangeSpec := { name := "fnExactNormalOf", vars := ["loop.example/g00632/impl.vmShape"], fn := fun _ => fun
  | [d1, d2, g1] => { results := [.lit (.bool true)], args := [d1, d2], vars := [g1] }
  | _ => none }
def fnExactNormalOfRow : OpenClaim := { program := "ytdojjmkpelgcaaadoor", sum := "23dd019a2b54ed1ac07137dacc3d69e9385f7cb4230ec0e73910c1b8ba0bf5ae", func := "loop.example/g00632/laws.FnExactNormalOf", spec := "fnExactNormalOf", unfollowed := true, recurses := true, named := ["loop.example/g00632/impl.vmShape"], apart := false, laid := [("loop.example/g00632/impl.vmShape", laid_loop_example_g00632_impl_vmShape)] }
def FnExactNormalOfSaid : Prop := fnExactNormalOfRow.holds Tryd.pinned (OpenSpec.ofChange fnExactNormalOfSpec)

/-- ITS FALSE NEIGHBOUR: 'it returns false'. Refute it at one input. -/
def fnExactNormalOfWrong : ChangeSpec := { name := "fnExactNormalOf", vars := ["loop.example/g00632/impl.vmShape"], fn := fun _ => fun
  | [d1, d2, g1] => { results := [.lit (.bool false)], args := [d1, d2], vars := [g1] }
  | _ => none }
def FnExactNormalOfWrongFalsely : Prop := fnExactNormalOfRow.holds Tryd.pinned (OpenSpec.ofChange fnExactNormalOfWrong)

/-- 'laws.FnExactSameClass': WHATEVER THE INPUT: true; the input reads as it did. -/
def fnExactSameClassSpec : ChangeSpec := { name := "fnExactSameClass", vars := ["loop.example/g00632/impl.vmShape"], fn := fun _ => fun
  | [d1, d2, d3, g1] => { results := [.lit (.bool true)], args := [d1, d2, d3], vars := [g1] }
  | _ => none }
def fnExactSameClassRow : OpenClaim := { program := "ytdojjmkpelgcaaadoor", sum := "23dd019a2b54ed1ac07137dacc3d69e9385f7cb4230ec0e73910c1b8ba0bf5ae", func := "loop.example/g00632/laws.FnExactSameClass", spec := "fnExactSameClass", unfollowed := true, recurses := true, named := ["loop.example/g00632/impl.vmShape"], apart := false, laid := [("loop.example/g00632/impl.vmShape", laid_loop_example_g00632_impl_vmShape)] }
def FnExactSameClassSaid : Prop := fnExactSameClassRow.holds Tryd.pinned (OpenSpec.ofChange fnExactSameClassSpec)

/-- ITS FALSE NEIGHBOUR: 'it returns false'. Refute it at one input. -/
def fnExactSameClassWrong : ChangeSpec := { name := "fnExactSameClass", vars := ["loop.example/g00632/impl.vmShape"], fn := fun _ => fun
  | [d1, d2, d3, g1] => { results := [.lit (.bool false)], args := [d1, d2, d3], vars := [g1] }
  | _ => none }
def FnExactSameClassWrongFalsely : Prop := fnExactSameClassRow.holds Tryd.pinned (OpenSpec.ofChange fnExactSameClassWrong)

/-- 'laws.FnExactNextEvent': WHATEVER THE INPUT: true; the input reads as it did. -/
def fnExactNextEventSpec : ChangeSpec := { name := "fnExactNextEvent", vars := ["loop.example/g00632/impl.vmShape"], fn := fun _ => fun
  | [d1, d2, d3, g1] => { results := [.lit (.bool true)], args := [d1, d2, d3], vars := [g1] }
  | _ => none }
def fnExactNextEventRow : OpenClaim := { program := "ytdojjmkpelgcaaadoor", sum := "23dd019a2b54ed1ac07137dacc3d69e9385f7cb4230ec0e73910c1b8ba0bf5ae", func := "loop.example/g00632/laws.FnExactNextEvent", spec := "fnExactNextEvent", unfollowed := true, recurses := true, named := ["loop.example/g00632/impl.vmShape"], apart := false, laid := [("loop.example/g00632/impl.vmShape", laid_loop_example_g00632_impl_vmShape)] }
def FnExactNextEventSaid : Prop := fnExactNextEventRow.holds Tryd.pinned (OpenSpec.ofChange fnExactNextEventSpec)

/-- ITS FALSE NEIGHBOUR: 'it returns false'. Refute it at one input. -/
def fnExactNextEventWrong : ChangeSpec := { name := "fnExactNextEvent", vars := ["loop.example/g00632/impl.vmShape"], fn := fun _ => fun
  | [d1, d2, d3, g1] => { results := [.lit (.bool false)], args := [d1, d2, d3], vars := [g1] }
  | _ => none }
def FnExactNextEventWrongFalsely : Prop := fnExactNextEventRow.holds Tryd.pinned (OpenSpec.ofChange fnExactNextEventWrong)

/-- 'laws.FnExactStillSleeps': WHATEVER THE INPUT: true; the input reads as it did. -/
def fnExactStillSleepsSpec : ChangeSpec := { name := "fnExactStillSleeps", vars := ["loop.example/g00632/impl.vmShape"], fn := fun _ => fun
  | [d1, d2, d3, d4, g1] => { results := [.lit (.bool true)], args := [d1, d2, d3, d4], vars := [g1] }
  | _ => none }
def fnExactStillSleepsRow : OpenClaim := { program := "ytdojjmkpelgcaaadoor", sum := "23dd019a2b54ed1ac07137dacc3d69e9385f7cb4230ec0e73910c1b8ba0bf5ae", func := "loop.example/g00632/laws.FnExactStillSleeps", spec := "fnExactStillSleeps", unfollowed := true, recurses := true, named := ["loop.example/g00632/impl.vmShape"], apart := false, laid := [("loop.example/g00632/impl.vmShape", laid_loop_example_g00632_impl_vmShape)] }
def FnExactStillSleepsSaid : Prop := fnExactStillSleepsRow.holds Tryd.pinned (OpenSpec.ofChange fnExactStillSleepsSpec)

/-- ITS FALSE NEIGHBOUR: 'it returns false'. Refute it at one input. -/
def fnExactStillSleepsWrong : ChangeSpec := { name := "fnExactStillSleeps", vars := ["loop.example/g00632/impl.vmShape"], fn := fun _ => fun
  | [d1, d2, d3, d4, g1] => { results := [.lit (.bool false)], args := [d1, d2, d3, d4], vars := [g1] }
  | _ => none }
def FnExactStillSleepsWrongFalsely : Prop := fnExactStillSleepsRow.holds Tryd.pinned (OpenSpec.ofChange fnExactStillSleepsWrong)

/-- 'laws.FnExactClassesOf': WHATEVER THE INPUT: true; the input reads as it did. -/
def fnExactClassesOfSpec : ChangeSpec := { name := "fnExactClassesOf", vars := ["loop.example/g00632/impl.vmShape"], fn := fun _ => fun
  | [d, g1] => { results := [.lit (.bool true)], args := [d], vars := [g1] }
  | _ => none }
def fnExactClassesOfRow : OpenClaim := { program := "ytdojjmkpelgcaaadoor", sum := "23dd019a2b54ed1ac07137dacc3d69e9385f7cb4230ec0e73910c1b8ba0bf5ae", func := "loop.example/g00632/laws.FnExactClassesOf", spec := "fnExactClassesOf", unfollowed := true, recurses := true, named := ["loop.example/g00632/impl.vmShape"], apart := false, laid := [("loop.example/g00632/impl.vmShape", laid_loop_example_g00632_impl_vmShape)] }
def FnExactClassesOfSaid : Prop := fnExactClassesOfRow.holds Tryd.pinned (OpenSpec.ofChange fnExactClassesOfSpec)

/-- ITS FALSE NEIGHBOUR: 'it returns false'. Refute it at one input. -/
def fnExactClassesOfWrong : ChangeSpec := { name := "fnExactClassesOf", vars := ["loop.example/g00632/impl.vmShape"], fn := fun _ => fun
  | [d, g1] => { results := [.lit (.bool false)], args := [d], vars := [g1] }
  | _ => none }
def FnExactClassesOfWrongFalsely : Prop := fnExactClassesOfRow.holds Tryd.pinned (OpenSpec.ofChange fnExactClassesOfWrong)

/- THE SECOND FORM. 'bulk': how many values and letters a reading holds, each counted each time it is reached (what is shared counts as often as it is met; a slice's spare places count too). A statement '..UptoSaid' is the law's where the arguments, and the package variables that the reading takes, are together of bulk at most 1048576: NARROWER than '..Said'. Prove '..Said' where nothing that the law and all that it calls make is longer than what came in: it says more and counts as full. Else prove '..UptoSaid'. A law counts once. -/
mutual
def uptoBulk {H : Type} : DataW H → Nat
  | .lit (.string bytes) => bytes.length + 1
  | .lit _ => 1
  | .nil => 1
  | .ptr d => uptoBulk d + 1
  | .slice elems spare => uptoBulkAll elems + uptoBulkAll spare + 1
  | .agg parts => uptoBulkAll parts + 1
  | .iface _ d => uptoBulk d + 1
  | .map entries => uptoBulkEntries entries + 1
  | .held _ => 1
def uptoBulkAll {H : Type} : List (DataW H) → Nat
  | [] => 0
  | d :: r => uptoBulk d + uptoBulkAll r
def uptoBulkEntries {H : Type} : List (Lit × DataW H) → Nat
  | [] => 0
  | x :: r => uptoBulkEntry x + uptoBulkEntries r
def uptoBulkEntry {H : Type} : Lit × DataW H → Nat
  | (.string bytes, d) => bytes.length + uptoBulk d + 1
  | (_, d) => uptoBulk d + 1
 end
def uptoSmall : (H : Type) → List (DataW H) → Bool := fun _ ds => decide (uptoBulkAll ds ≤ 1048576)
def OpenSpec.upto (s : _root_.Go.ChangeSpec) : _root_.Go.OpenSpec := { _root_.Go.OpenSpec.ofChange s with cond := some uptoSmall }

/-- 'laws.FnNext', WHERE WHAT IT READS IS OF BULK AT MOST 1048576: true; the input reads as it did. -/
def fnNextUptoRow : OpenClaim := { program := "ytdojjmkpelgcaaadoor", sum := "23dd019a2b54ed1ac07137dacc3d69e9385f7cb4230ec0e73910c1b8ba0bf5ae", func := "loop.example/g00632/laws.FnNext", spec := "fnNext", unfollowed := true, recurses := true, named := ["loop.example/g00632/impl.vmShape"], apart := false, laid := [("loop.example/g00632/impl.vmShape", laid_loop_example_g00632_impl_vmShape)], narrowed := true }
def FnNextUptoSaid : Prop := fnNextUptoRow.holds Tryd.pinned (OpenSpec.upto fnNextSpec)

/-- 'laws.FnExactNormalOf', WHERE WHAT IT READS IS OF BULK AT MOST 1048576: true; the input reads as it did. -/
def fnExactNormalOfUptoRow : OpenClaim := { program := "ytdojjmkpelgcaaadoor", sum := "23dd019a2b54ed1ac07137dacc3d69e9385f7cb4230ec0e73910c1b8ba0bf5ae", func := "loop.example/g00632/laws.FnExactNormalOf", spec := "fnExactNormalOf", unfollowed := true, recurses := true, named := ["loop.example/g00632/impl.vmShape"], apart := false, laid := [("loop.example/g00632/impl.vmShape", laid_loop_example_g00632_impl_vmShape)], narrowed := true }
def FnExactNormalOfUptoSaid : Prop := fnExactNormalOfUptoRow.holds Tryd.pinned (OpenSpec.upto fnExactNormalOfSpec)

/-- 'laws.FnExactSameClass', WHERE WHAT IT READS IS OF BULK AT MOST 1048576: true; the input reads as it did. -/
def fnExactSameClassUptoRow : OpenClaim := { program := "ytdojjmkpelgcaaadoor", sum := "23dd019a2b54ed1ac07137dacc3d69e9385f7cb4230ec0e73910c1b8ba0bf5ae", func := "loop.example/g00632/laws.FnExactSameClass", spec := "fnExactSameClass", unfollowed := true, recurses := true, named := ["loop.example/g00632/impl.vmShape"], apart := false, laid := [("loop.example/g00632/impl.vmShape", laid_loop_example_g00632_impl_vmShape)], narrowed := true }
def FnExactSameClassUptoSaid : Prop := fnExactSameClassUptoRow.holds Tryd.pinned (OpenSpec.upto fnExactSameClassSpec)

/-- 'laws.FnExactNextEvent', WHERE WHAT IT READS IS OF BULK AT MOST 1048576: true; the input reads as it did. -/
def fnExactNextEventUptoRow : OpenClaim := { program := "ytdojjmkpelgcaaadoor", sum := "23dd019a2b54ed1ac07137dacc3d69e9385f7cb4230ec0e73910c1b8ba0bf5ae", func := "loop.example/g00632/laws.FnExactNextEvent", spec := "fnExactNextEvent", unfollowed := true, recurses := true, named := ["loop.example/g00632/impl.vmShape"], apart := false, laid := [("loop.example/g00632/impl.vmShape", laid_loop_example_g00632_impl_vmShape)], narrowed := true }
def FnExactNextEventUptoSaid : Prop := fnExactNextEventUptoRow.holds Tryd.pinned (OpenSpec.upto fnExactNextEventSpec)

/-- 'laws.FnExactStillSleeps', WHERE WHAT IT READS IS OF BULK AT MOST 1048576: true; the input reads as it did. -/
def fnExactStillSleepsUptoRow : OpenClaim := { program := "ytdojjmkpelgcaaadoor", sum := "23dd019a2b54ed1ac07137dacc3d69e9385f7cb4230ec0e73910c1b8ba0bf5ae", func := "loop.example/g00632/laws.FnExactStillSleeps", spec := "fnExactStillSleeps", unfollowed := true, recurses := true, named := ["loop.example/g00632/impl.vmShape"], apart := false, laid := [("loop.example/g00632/impl.vmShape", laid_loop_example_g00632_impl_vmShape)], narrowed := true }
def FnExactStillSleepsUptoSaid : Prop := fnExactStillSleepsUptoRow.holds Tryd.pinned (OpenSpec.upto fnExactStillSleepsSpec)

/-- 'laws.FnExactClassesOf', WHERE WHAT IT READS IS OF BULK AT MOST 1048576: true; the input reads as it did. -/
def fnExactClassesOfUptoRow : OpenClaim := { program := "ytdojjmkpelgcaaadoor", sum := "23dd019a2b54ed1ac07137dacc3d69e9385f7cb4230ec0e73910c1b8ba0bf5ae", func := "loop.example/g00632/laws.FnExactClassesOf", spec := "fnExactClassesOf", unfollowed := true, recurses := true, named := ["loop.example/g00632/impl.vmShape"], apart := false, laid := [("loop.example/g00632/impl.vmShape", laid_loop_example_g00632_impl_vmShape)], narrowed := true }
def FnExactClassesOfUptoSaid : Prop := fnExactClassesOfUptoRow.holds Tryd.pinned (OpenSpec.upto fnExactClassesOfSpec)

end Rows
end Go.Proofs.YtdojjmkpelgcaaaDoor
