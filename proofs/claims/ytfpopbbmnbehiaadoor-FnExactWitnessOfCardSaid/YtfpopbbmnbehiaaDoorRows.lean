/-
  NARROWER THAN 'FOR EVERY INPUT', by the rows' own cells (each row's printed sentence says how): FnExactAllStates: laid · FnExactWitnessOf: laid · FnExactCountRuns: laid · FnExactIsReached: laid.
  DERIVED. THE GIVEN ROWS OF THIS SEAT. 4 by the template 'for every input the law returns true; each argument reads behind the call as it read before'; 0 by the template 'total and deterministic' (their statements: YtfpopbbmnbehiaaDoorTotals.lean).
  GIVEN WITH THE SEED: the statements are not yours to turn. If you find one false, say at which input.
  Laid BY PROGRAM, IN A SANDBOX (cutbox-rows.mjs): the forced cells as the released guide's own fill.sh prints them over the translation bd56de2581830285… (all of the seat's roots in one cut). By AI agents, Wed Nov 11 2026. No macro, syntax, notation, axiom, sorry.
-/
import Derived.Test.YtfpopbbmnbehiaaDoorChecked
import GoSem.Claim
import GoSem.ClaimJoined
import GoSem.ClaimMapViews
import Derived.JoinedTies
import Derived.KernelRfl
namespace Go.Proofs.YtfpopbbmnbehiaaDoor
/- THE CELL 'sum', in the pinned program and in every row, IS THE sha256 OF THE DUMP (.gsa) THAT YtfpopbbmnbehiaaDoorProg.lean LOADS. Nothing in Lean hashes anything: it is a label: what it is worth is what the hold of that sum in a sandbox is worth. -/
noncomputable def Tryd.pinned : Pinned := { name := "ytfpopbbmnbehiaadoor", sum := "bd56de2581830285f126c066d247535588788167ec8491074480b4a15a4edb77", checked := Tryd.checked }
namespace Rows
def none {H : Type} : Left H := { results := [], args := [] }

/- WHAT THE LISTED PACKAGE-LEVEL VARIABLES READ AS WHEN THE CALL BEGINS. Each datum BY PROGRAM (the guide's laid-datum.mjs) off the statement by which the dump's own 'gosem.cut.vars' lays the variable. In a bare row this is a premise. The card (YtfpopbbmnbehiaaDoorCards.lean) ties it to the program's text. -/
def laid_loop_example_g00632_impl_vmShape {H : Type} : DataW H := .agg [.agg [.lit (.int .i64 3), .lit (.int .i64 6)], .agg [.lit (.int .i64 4), .lit (.int .i64 9)], .agg [.lit (.int .i64 2), .lit (.int .i64 3)], .agg [.lit (.int .i64 6), .lit (.int .i64 9)]]

/-- 'laws.FnExactAllStates': WHATEVER THE INPUT: true; the input reads as it did. -/
def fnExactAllStatesSpec : ChangeSpec := { name := "fnExactAllStates", vars := ["loop.example/g00632/impl.vmShape"], fn := fun _ => fun
  | [d, g1] => { results := [.lit (.bool true)], args := [d], vars := [g1] }
  | _ => none }
def fnExactAllStatesRow : OpenClaim := { program := "ytfpopbbmnbehiaadoor", sum := "bd56de2581830285f126c066d247535588788167ec8491074480b4a15a4edb77", func := "loop.example/g00632/laws.FnExactAllStates", spec := "fnExactAllStates", unfollowed := true, recurses := true, named := ["loop.example/g00632/impl.vmShape"], apart := false, laid := [("loop.example/g00632/impl.vmShape", laid_loop_example_g00632_impl_vmShape)] }
def FnExactAllStatesSaid : Prop := fnExactAllStatesRow.holds Tryd.pinned (OpenSpec.ofChange fnExactAllStatesSpec)

/-- ITS FALSE NEIGHBOUR: 'it returns false'. Refute it at one input. -/
def fnExactAllStatesWrong : ChangeSpec := { name := "fnExactAllStates", vars := ["loop.example/g00632/impl.vmShape"], fn := fun _ => fun
  | [d, g1] => { results := [.lit (.bool false)], args := [d], vars := [g1] }
  | _ => none }
def FnExactAllStatesWrongFalsely : Prop := fnExactAllStatesRow.holds Tryd.pinned (OpenSpec.ofChange fnExactAllStatesWrong)

/-- 'laws.FnExactWitnessOf': WHATEVER THE INPUT: true; the input reads as it did. -/
def fnExactWitnessOfSpec : ChangeSpec := { name := "fnExactWitnessOf", vars := ["loop.example/g00632/impl.vmShape"], fn := fun _ => fun
  | [d1, d2, g1] => { results := [.lit (.bool true)], args := [d1, d2], vars := [g1] }
  | _ => none }
def fnExactWitnessOfRow : OpenClaim := { program := "ytfpopbbmnbehiaadoor", sum := "bd56de2581830285f126c066d247535588788167ec8491074480b4a15a4edb77", func := "loop.example/g00632/laws.FnExactWitnessOf", spec := "fnExactWitnessOf", unfollowed := true, recurses := true, named := ["loop.example/g00632/impl.vmShape"], apart := false, laid := [("loop.example/g00632/impl.vmShape", laid_loop_example_g00632_impl_vmShape)] }
def FnExactWitnessOfSaid : Prop := fnExactWitnessOfRow.holds Tryd.pinned (OpenSpec.ofChange fnExactWitnessOfSpec)

/-- ITS FALSE NEIGHBOUR: 'it returns false'. Refute it at one input. -/
def fnExactWitnessOfWrong : ChangeSpec := { name := "fnExactWitnessOf", vars := ["loop.example/g00632/impl.vmShape"], fn := fun _ => fun
  | [d1, d2, g1] => { results := [.lit (.bool false)], args := [d1, d2], vars := [g1] }
  | _ => none }
def FnExactWitnessOfWrongFalsely : Prop := fnExactWitnessOfRow.holds Tryd.pinned (OpenSpec.ofChange fnExactWitnessOfWrong)

/-- 'laws.FnExactCountRuns': WHATEVER THE INPUT: true; the input reads as it did. -/
def fnExactCountRunsSpec : ChangeSpec := { name := "fnExactCountRuns", vars := ["loop.example/g00632/impl.vmShape"], fn := fun _ => fun
  | [d, g1] => { results := [.lit (.bool true)], args := [d], vars := [g1] }
  | _ => none }
def fnExactCountRunsRow : OpenClaim := { program := "ytfpopbbmnbehiaadoor", sum := "bd56de2581830285f126c066d247535588788167ec8491074480b4a15a4edb77", func := "loop.example/g00632/laws.FnExactCountRuns", spec := "fnExactCountRuns", unfollowed := true, recurses := true, named := ["loop.example/g00632/impl.vmShape"], apart := false, laid := [("loop.example/g00632/impl.vmShape", laid_loop_example_g00632_impl_vmShape)] }
def FnExactCountRunsSaid : Prop := fnExactCountRunsRow.holds Tryd.pinned (OpenSpec.ofChange fnExactCountRunsSpec)

/-- ITS FALSE NEIGHBOUR: 'it returns false'. Refute it at one input. -/
def fnExactCountRunsWrong : ChangeSpec := { name := "fnExactCountRuns", vars := ["loop.example/g00632/impl.vmShape"], fn := fun _ => fun
  | [d, g1] => { results := [.lit (.bool false)], args := [d], vars := [g1] }
  | _ => none }
def FnExactCountRunsWrongFalsely : Prop := fnExactCountRunsRow.holds Tryd.pinned (OpenSpec.ofChange fnExactCountRunsWrong)

/-- 'laws.FnExactIsReached': WHATEVER THE INPUT: true; the input reads as it did. -/
def fnExactIsReachedSpec : ChangeSpec := { name := "fnExactIsReached", vars := ["loop.example/g00632/impl.vmShape"], fn := fun _ => fun
  | [d1, d2, g1] => { results := [.lit (.bool true)], args := [d1, d2], vars := [g1] }
  | _ => none }
def fnExactIsReachedRow : OpenClaim := { program := "ytfpopbbmnbehiaadoor", sum := "bd56de2581830285f126c066d247535588788167ec8491074480b4a15a4edb77", func := "loop.example/g00632/laws.FnExactIsReached", spec := "fnExactIsReached", unfollowed := true, recurses := true, named := ["loop.example/g00632/impl.vmShape"], apart := false, laid := [("loop.example/g00632/impl.vmShape", laid_loop_example_g00632_impl_vmShape)] }
def FnExactIsReachedSaid : Prop := fnExactIsReachedRow.holds Tryd.pinned (OpenSpec.ofChange fnExactIsReachedSpec)

/-- ITS FALSE NEIGHBOUR: 'it returns false'. Refute it at one input. -/
def fnExactIsReachedWrong : ChangeSpec := { name := "fnExactIsReached", vars := ["loop.example/g00632/impl.vmShape"], fn := fun _ => fun
  | [d1, d2, g1] => { results := [.lit (.bool false)], args := [d1, d2], vars := [g1] }
  | _ => none }
def FnExactIsReachedWrongFalsely : Prop := fnExactIsReachedRow.holds Tryd.pinned (OpenSpec.ofChange fnExactIsReachedWrong)

/- THE SECOND FORM. 'bulk': how many values and letters a reading holds, each counted each time it is reached (what is shared counts as often as it is met; a slice's spare places count too). A statement '..UptoSaid' is the law's where the arguments, and the package variables that the reading takes, are together of bulk at most 1048576: NARROWER than '..Said'. Prove '..Said' where nothing that the law and all that it calls make is longer than what came in: it says more and counts as full. Else prove '..UptoSaid'. A law counts once. -/
mutual
def uptoBulk {H : Type} : DataW H → Nat
  | .lit (.string bytes) => bytes.length + 1
  | .lit _ => 1
  | .nil => 1
  | .ptr d => uptoBulk d + 1
  | .slice elems spare => uptoBulkAll elems + uptoBulkAll spare + 1
  | .agg parts => uptoBulkAll parts + 1
  | .iface _ d => uptoBulk d + 1
  | .map entries => uptoBulkEntries entries + 1
  | .held _ => 1
def uptoBulkAll {H : Type} : List (DataW H) → Nat
  | [] => 0
  | d :: r => uptoBulk d + uptoBulkAll r
def uptoBulkEntries {H : Type} : List (Lit × DataW H) → Nat
  | [] => 0
  | x :: r => uptoBulkEntry x + uptoBulkEntries r
def uptoBulkEntry {H : Type} : Lit × DataW H → Nat
  | (.string bytes, d) => bytes.length + uptoBulk d + 1
  | (_, d) => uptoBulk d + 1
 end
def uptoSmall : (H : Type) → List (DataW H) → Bool := fun _ ds => decide (uptoBulkAll ds ≤ 1048576)
def OpenSpec.upto (s : _root_.Go.ChangeSpec) : _root_.Go.OpenSpec := { _root_.Go.OpenSpec.ofChange s with cond := some uptoSmall }

/-- 'laws.FnExactAllStates', WHERE WHAT IT READS IS OF BULK AT MOST 1048576: true; the input reads as it did. -/
def fnExactAllStatesUptoRow : OpenClaim := { program := "ytfpopbbmnbehiaadoor", sum := "bd56de2581830285f126c066d247535588788167ec8491074480b4a15a4edb77", func := "loop.example/g00632/laws.FnExactAllStates", spec := "fnExactAllStates", unfollowed := true, recurses := true, named := ["loop.example/g00632/impl.vmShape"], apart := false, laid := [("loop.example/g00632/impl.vmShape", laid_loop_example_g00632_impl_vmShape)], narrowed := true }
def FnExactAllStatesUptoSaid : Prop := fnExactAllStatesUptoRow.holds Tryd.pinned (OpenSpec.upto fnExactAllStatesSpec)

/-- 'laws.FnExactWitnessOf', WHERE WHAT IT READS IS OF BULK AT MOST 1048576: true; the input reads as it did. -/
def fnExactWitnessOfUptoRow : OpenClaim := { program := "ytfpopbbmnbehiaadoor", sum := "bd56de2581830285f126c066d247535588788167ec8491074480b4a15a4edb77", func := "loop.example/g00632/laws.FnExactWitnessOf", spec := "fnExactWitnessOf", unfollowed := true, recurses := true, named := ["loop.example/g00632/impl.vmShape"], apart := false, laid := [("loop.example/g00632/impl.vmShape", laid_loop_example_g00632_impl_vmShape)], narrowed := true }
def FnExactWitnessOfUptoSaid : Prop := fnExactWitnessOfUptoRow.holds Tryd.pinned (OpenSpec.upto fnExactWitnessOfSpec)

/-- 'laws.FnExactCountRuns', WHERE WHAT IT READS IS OF BULK AT MOST 1048576: true; the input reads as it did. -/
def fnExactCountRunsUptoRow : OpenClaim := { program := "ytfpopbbmnbehiaadoor", sum := "bd56de2581830285f126c066d247535588788167ec8491074480b4a15a4edb77", func := "loop.example/g00632/laws.FnExactCountRuns", spec := "fnExactCountRuns", unfollowed := true, recurses := true, named := ["loop.example/g00632/impl.vmShape"], apart := false, laid := [("loop.example/g00632/impl.vmShape", laid_loop_example_g00632_impl_vmShape)], narrowed := true }
def FnExactCountRunsUptoSaid : Prop := fnExactCountRunsUptoRow.holds Tryd.pinned (OpenSpec.upto fnExactCountRunsSpec)

/-- 'laws.FnExactIsReached', WHERE WHAT IT READS IS OF BULK AT MOST 1048576: true; the input reads as it did. -/
def fnExactIsReachedUptoRow : OpenClaim := { program := "ytfpopbbmnbehiaadoor", sum := "bd56de2581830285f126c066d247535588788167ec8491074480b4a15a4edb77", func := "loop.example/g00632/laws.FnExactIsReached", spec := "fnExactIsReached", unfollowed := true, recurses := true, named := ["loop.example/g00632/impl.vmShape"], apart := false, laid := [("loop.example/g00632/impl.vmShape", laid_loop_example_g00632_impl_vmShape)], narrowed := true }
def FnExactIsReachedUptoSaid : Prop := fnExactIsReachedUptoRow.holds Tryd.pinned (OpenSpec.upto fnExactIsReachedSpec)

end Rows
end Go.Proofs.YtfpopbbmnbehiaaDoor
