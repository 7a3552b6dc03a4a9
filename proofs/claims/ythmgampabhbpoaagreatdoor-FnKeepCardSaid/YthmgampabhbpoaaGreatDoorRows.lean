/-
  NARROWER THAN 'FOR EVERY INPUT', by the rows' own cells (each row's printed sentence says how): FnKeep: laid · FnMemo: laid · FnExactKeepEntries: laid.
  DERIVED. THE GIVEN ROWS OF THIS SEAT. 3 by the template 'for every input the law returns true; each argument reads behind the call as it read before'; 0 by the template 'total and deterministic' (their statements: YthmgampabhbpoaaGreatDoorTotals.lean).
  GIVEN WITH THE SEED: the statements are not yours to turn. If you find one false, say at which input.
  Laid BY PROGRAM, IN A SANDBOX (cutbox-rows.mjs): the forced cells as the released guide's own fill.sh prints them over the translation 24e9389ce3ca9e9b… (all of the seat's roots in one cut). By AI agents, Wed Nov 11 2026. No macro, syntax, notation, axiom, sorry.
-/
import Derived.Test.YthmgampabhbpoaaGreatDoorChecked
import GoSem.Claim
import GoSem.ClaimJoined
import GoSem.ClaimMapViews
import Derived.JoinedTies
import Derived.KernelRfl
namespace Go.Proofs.YthmgampabhbpoaaGreatDoor
/- THE CELL 'sum', in the pinned program and in every row, IS THE sha256 OF THE DUMP (.gsa) THAT YthmgampabhbpoaaGreatDoorProg.lean LOADS. Nothing in Lean hashes anything: it is a label: what it is worth is what the hold of that sum in a sandbox is worth. -/
noncomputable def Tryz.pinned : Pinned := { name := "ythmgampabhbpoaagreatdoor", sum := "24e9389ce3ca9e9b8979068975f057ad032b95471b31756fb2ab1fa7d49e5ada", checked := Tryz.checked }
namespace Rows
def none {H : Type} : Left H := { results := [], args := [] }

/- WHAT THE LISTED PACKAGE-LEVEL VARIABLES READ AS WHEN THE CALL BEGINS. Each datum BY PROGRAM (the guide's laid-datum.mjs) off the statement by which the dump's own 'gosem.cut.vars' lays the variable. In a bare row this is a premise. The card (YthmgampabhbpoaaGreatDoorCards.lean) ties it to the program's text. -/
def laid_loop_example_g00632_impl_vmShape {H : Type} : DataW H := .agg [.agg [.lit (.int .i64 3), .lit (.int .i64 6)], .agg [.lit (.int .i64 4), .lit (.int .i64 9)], .agg [.lit (.int .i64 2), .lit (.int .i64 3)], .agg [.lit (.int .i64 6), .lit (.int .i64 9)]]
def laid_errors_errorType {H : Type} : DataW H := .iface "internal/reflectlite.rtype" (.agg [.ptr (.lit (.string [101, 114, 114, 111, 114]))])

/-- 'laws.FnKeep': WHATEVER THE INPUT: true; the input reads as it did. -/
def fnKeepSpec : ChangeSpec := { name := "fnKeep", vars := ["loop.example/g00632/impl.vmShape"], fn := fun _ => fun
  | [d1, d2, g1] => { results := [.lit (.bool true)], args := [d1, d2], vars := [g1] }
  | _ => none }
def fnKeepRow : OpenClaim := { program := "ythmgampabhbpoaagreatdoor", sum := "24e9389ce3ca9e9b8979068975f057ad032b95471b31756fb2ab1fa7d49e5ada", func := "loop.example/g00632/laws.FnKeep", spec := "fnKeep", inPlace := ["internal/bytealg.abigen_runtime_cmpstring"], unfollowed := true, recurses := true, named := ["loop.example/g00632/impl.vmShape"], apart := false, laid := [("loop.example/g00632/impl.vmShape", laid_loop_example_g00632_impl_vmShape)] }
def FnKeepSaid : Prop := fnKeepRow.holds Tryz.pinned (OpenSpec.ofChange fnKeepSpec)

/-- ITS FALSE NEIGHBOUR: 'it returns false'. Refute it at one input. -/
def fnKeepWrong : ChangeSpec := { name := "fnKeep", vars := ["loop.example/g00632/impl.vmShape"], fn := fun _ => fun
  | [d1, d2, g1] => { results := [.lit (.bool false)], args := [d1, d2], vars := [g1] }
  | _ => none }
def FnKeepWrongFalsely : Prop := fnKeepRow.holds Tryz.pinned (OpenSpec.ofChange fnKeepWrong)

/-- 'laws.FnMemo': WHATEVER THE INPUT: true; the input reads as it did. -/
def fnMemoSpec : ChangeSpec := { name := "fnMemo", vars := ["loop.example/g00632/impl.vmShape"], fn := fun _ => fun
  | [d1, d2, g1] => { results := [.lit (.bool true)], args := [d1, d2], vars := [g1] }
  | _ => none }
def fnMemoRow : OpenClaim := { program := "ythmgampabhbpoaagreatdoor", sum := "24e9389ce3ca9e9b8979068975f057ad032b95471b31756fb2ab1fa7d49e5ada", func := "loop.example/g00632/laws.FnMemo", spec := "fnMemo", inPlace := ["internal/bytealg.abigen_runtime_cmpstring", "slices.overlaps[loop.example/g00632/impl.Entry]", "internal/reflectlite.ValueOf", "(internal/reflectlite.Value).Type", "(internal/reflectlite.Value).IsNil", "internal/reflectlite.TypeOf", "(internal/reflectlite.Value).Elem", "(internal/reflectlite.Value).Set"], unfollowed := true, recurses := true, named := ["loop.example/g00632/impl.vmShape", "errors.errorType"], apart := false, laid := [("errors.errorType", laid_errors_errorType), ("loop.example/g00632/impl.vmShape", laid_loop_example_g00632_impl_vmShape)] }
def FnMemoSaid : Prop := fnMemoRow.holds Tryz.pinned (OpenSpec.ofChange fnMemoSpec)

/-- ITS FALSE NEIGHBOUR: 'it returns false'. Refute it at one input. -/
def fnMemoWrong : ChangeSpec := { name := "fnMemo", vars := ["loop.example/g00632/impl.vmShape"], fn := fun _ => fun
  | [d1, d2, g1] => { results := [.lit (.bool false)], args := [d1, d2], vars := [g1] }
  | _ => none }
def FnMemoWrongFalsely : Prop := fnMemoRow.holds Tryz.pinned (OpenSpec.ofChange fnMemoWrong)

/-- 'laws.FnExactKeepEntries': WHATEVER THE INPUT: true; the input reads as it did. -/
def fnExactKeepEntriesSpec : ChangeSpec := { name := "fnExactKeepEntries", vars := ["loop.example/g00632/impl.vmShape"], fn := fun _ => fun
  | [d1, d2, g1] => { results := [.lit (.bool true)], args := [d1, d2], vars := [g1] }
  | _ => none }
def fnExactKeepEntriesRow : OpenClaim := { program := "ythmgampabhbpoaagreatdoor", sum := "24e9389ce3ca9e9b8979068975f057ad032b95471b31756fb2ab1fa7d49e5ada", func := "loop.example/g00632/laws.FnExactKeepEntries", spec := "fnExactKeepEntries", inPlace := ["internal/bytealg.abigen_runtime_cmpstring"], unfollowed := true, recurses := true, named := ["loop.example/g00632/impl.vmShape"], apart := false, laid := [("loop.example/g00632/impl.vmShape", laid_loop_example_g00632_impl_vmShape)] }
def FnExactKeepEntriesSaid : Prop := fnExactKeepEntriesRow.holds Tryz.pinned (OpenSpec.ofChange fnExactKeepEntriesSpec)

/-- ITS FALSE NEIGHBOUR: 'it returns false'. Refute it at one input. -/
def fnExactKeepEntriesWrong : ChangeSpec := { name := "fnExactKeepEntries", vars := ["loop.example/g00632/impl.vmShape"], fn := fun _ => fun
  | [d1, d2, g1] => { results := [.lit (.bool false)], args := [d1, d2], vars := [g1] }
  | _ => none }
def FnExactKeepEntriesWrongFalsely : Prop := fnExactKeepEntriesRow.holds Tryz.pinned (OpenSpec.ofChange fnExactKeepEntriesWrong)

/- THE SECOND FORM. 'bulk': how many values and letters a reading holds, each counted each time it is reached (what is shared counts as often as it is met; a slice's spare places count too). A statement '..UptoSaid' is the law's where the arguments, and the package variables that the reading takes, are together of bulk at most 1048576: NARROWER than '..Said'. Prove '..Said' where nothing that the law and all that it calls make is longer than what came in: it says more and counts as full. Else prove '..UptoSaid'. A law counts once. -/
mutual
def uptoBulk {H : Type} : DataW H → Nat
  | .lit (.string bytes) => bytes.length + 1
  | .lit _ => 1
  | .nil => 1
  | .ptr d => uptoBulk d + 1
  | .slice elems spare => uptoBulkAll elems + uptoBulkAll spare + 1
  | .agg parts => uptoBulkAll parts + 1
  | .iface _ d => uptoBulk d + 1
  | .map entries => uptoBulkEntries entries + 1
  | .held _ => 1
def uptoBulkAll {H : Type} : List (DataW H) → Nat
  | [] => 0
  | d :: r => uptoBulk d + uptoBulkAll r
def uptoBulkEntries {H : Type} : List (Lit × DataW H) → Nat
  | [] => 0
  | x :: r => uptoBulkEntry x + uptoBulkEntries r
def uptoBulkEntry {H : Type} : Lit × DataW H → Nat
  | (.string bytes, d) => bytes.length + uptoBulk d + 1
  | (_, d) => uptoBulk d + 1
 end
def uptoSmall : (H : Type) → List (DataW H) → Bool := fun _ ds => decide (uptoBulkAll ds ≤ 1048576)
def OpenSpec.upto (s : _root_.Go.ChangeSpec) : _root_.Go.OpenSpec := { _root_.Go.OpenSpec.ofChange s with cond := some uptoSmall }

/-- 'laws.FnKeep', WHERE WHAT IT READS IS OF BULK AT MOST 1048576: true; the input reads as it did. -/
def fnKeepUptoRow : OpenClaim := { program := "ythmgampabhbpoaagreatdoor", sum := "24e9389ce3ca9e9b8979068975f057ad032b95471b31756fb2ab1fa7d49e5ada", func := "loop.example/g00632/laws.FnKeep", spec := "fnKeep", inPlace := ["internal/bytealg.abigen_runtime_cmpstring"], unfollowed := true, recurses := true, named := ["loop.example/g00632/impl.vmShape"], apart := false, laid := [("loop.example/g00632/impl.vmShape", laid_loop_example_g00632_impl_vmShape)], narrowed := true }
def FnKeepUptoSaid : Prop := fnKeepUptoRow.holds Tryz.pinned (OpenSpec.upto fnKeepSpec)

/-- 'laws.FnMemo', WHERE WHAT IT READS IS OF BULK AT MOST 1048576: true; the input reads as it did. -/
def fnMemoUptoRow : OpenClaim := { program := "ythmgampabhbpoaagreatdoor", sum := "24e9389ce3ca9e9b8979068975f057ad032b95471b31756fb2ab1fa7d49e5ada", func := "loop.example/g00632/laws.FnMemo", spec := "fnMemo", inPlace := ["internal/bytealg.abigen_runtime_cmpstring", "slices.overlaps[loop.example/g00632/impl.Entry]", "internal/reflectlite.ValueOf", "(internal/reflectlite.Value).Type", "(internal/reflectlite.Value).IsNil", "internal/reflectlite.TypeOf", "(internal/reflectlite.Value).Elem", "(internal/reflectlite.Value).Set"], unfollowed := true, recurses := true, named := ["loop.example/g00632/impl.vmShape", "errors.errorType"], apart := false, laid := [("errors.errorType", laid_errors_errorType), ("loop.example/g00632/impl.vmShape", laid_loop_example_g00632_impl_vmShape)], narrowed := true }
def FnMemoUptoSaid : Prop := fnMemoUptoRow.holds Tryz.pinned (OpenSpec.upto fnMemoSpec)

/-- 'laws.FnExactKeepEntries', WHERE WHAT IT READS IS OF BULK AT MOST 1048576: true; the input reads as it did. -/
def fnExactKeepEntriesUptoRow : OpenClaim := { program := "ythmgampabhbpoaagreatdoor", sum := "24e9389ce3ca9e9b8979068975f057ad032b95471b31756fb2ab1fa7d49e5ada", func := "loop.example/g00632/laws.FnExactKeepEntries", spec := "fnExactKeepEntries", inPlace := ["internal/bytealg.abigen_runtime_cmpstring"], unfollowed := true, recurses := true, named := ["loop.example/g00632/impl.vmShape"], apart := false, laid := [("loop.example/g00632/impl.vmShape", laid_loop_example_g00632_impl_vmShape)], narrowed := true }
def FnExactKeepEntriesUptoSaid : Prop := fnExactKeepEntriesUptoRow.holds Tryz.pinned (OpenSpec.upto fnExactKeepEntriesSpec)

end Rows
end Go.Proofs.YthmgampabhbpoaaGreatDoor
