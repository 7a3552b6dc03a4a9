/-
  NARROWER THAN 'FOR EVERY INPUT', by the rows' own cells (each row's printed sentence says how): FnStep: laid · FnKey: laid · FnBugs: laid · FnRun: laid · FnExactIsDone: laid · FnExactStepVm: laid · FnExactBugText: laid · FnExactReadBug: laid · FnExactIsWitness: laid.
  DERIVED. THE GIVEN ROWS OF THIS SEAT. 9 by the template 'for every input the law returns true; each argument reads behind the call as it read before'; 0 by the template 'total and deterministic' (their statements: YtkmnnmgopnoffaaDoorTotals.lean).
  GIVEN WITH THE SEED: the statements are not yours to turn. If you find one false, say at which input.
  Laid BY PROGRAM, IN A SANDBOX (cutbox-rows.mjs): the forced cells as the released guide's own fill.sh prints them over the translation 06e0eb0b09b1cc39… (all of the seat's roots in one cut). By AI agents, Wed Nov 11 2026. No macro, syntax, notation, axiom, sorry.
-/
import Derived.Test.YtkmnnmgopnoffaaDoorChecked
import GoSem.PinnedTables
import GoSem.Claim
import GoSem.ClaimJoined
import GoSem.ClaimMapViews
import Derived.JoinedTies
import Derived.KernelRfl
namespace Go.Proofs.YtkmnnmgopnoffaaDoor
/- THE CELL 'sum', in the pinned program and in every row, IS THE sha256 OF THE DUMP (.gsa) THAT YtkmnnmgopnoffaaDoorProg.lean LOADS. Nothing in Lean hashes anything: it is a label: what it is worth is what the hold of that sum in a sandbox is worth. -/
noncomputable def Tryd.pinned : Pinned := { name := "ytkmnnmgopnoffaadoor", sum := "06e0eb0b09b1cc390e0c249ea11efe97091d209ae489bb5dee2236c594849ae9", checked := Tryd.checked }
namespace Rows
def none {H : Type} : Left H := { results := [], args := [] }

/- WHAT THE LISTED PACKAGE-LEVEL VARIABLES READ AS WHEN THE CALL BEGINS. Each datum BY PROGRAM (the guide's laid-datum.mjs) off the statement by which the dump's own 'gosem.cut.vars' lays the variable. In a bare row this is a premise. The card (YtkmnnmgopnoffaaDoorCards.lean) ties it to the program's text. -/
def laid_loop_example_g00632_impl_vmShape {H : Type} : DataW H := .agg [.agg [.lit (.int .i64 3), .lit (.int .i64 6)], .agg [.lit (.int .i64 4), .lit (.int .i64 9)], .agg [.lit (.int .i64 2), .lit (.int .i64 3)], .agg [.lit (.int .i64 6), .lit (.int .i64 9)]]
def laid_math_bits_deBruijn32tab {H : Type} : DataW H := .agg [.lit (.int .u8 0), .lit (.int .u8 1), .lit (.int .u8 28), .lit (.int .u8 2), .lit (.int .u8 29), .lit (.int .u8 14), .lit (.int .u8 24), .lit (.int .u8 3), .lit (.int .u8 30), .lit (.int .u8 22), .lit (.int .u8 20), .lit (.int .u8 15), .lit (.int .u8 25), .lit (.int .u8 17), .lit (.int .u8 4), .lit (.int .u8 8), .lit (.int .u8 31), .lit (.int .u8 27), .lit (.int .u8 13), .lit (.int .u8 23), .lit (.int .u8 21), .lit (.int .u8 19), .lit (.int .u8 16), .lit (.int .u8 7), .lit (.int .u8 26), .lit (.int .u8 12), .lit (.int .u8 18), .lit (.int .u8 6), .lit (.int .u8 11), .lit (.int .u8 5), .lit (.int .u8 10), .lit (.int .u8 9)]
def laid_math_bits_deBruijn64tab {H : Type} : DataW H := .agg [.lit (.int .u8 0), .lit (.int .u8 1), .lit (.int .u8 56), .lit (.int .u8 2), .lit (.int .u8 57), .lit (.int .u8 49), .lit (.int .u8 28), .lit (.int .u8 3), .lit (.int .u8 61), .lit (.int .u8 58), .lit (.int .u8 42), .lit (.int .u8 50), .lit (.int .u8 38), .lit (.int .u8 29), .lit (.int .u8 17), .lit (.int .u8 4), .lit (.int .u8 62), .lit (.int .u8 47), .lit (.int .u8 59), .lit (.int .u8 36), .lit (.int .u8 45), .lit (.int .u8 43), .lit (.int .u8 51), .lit (.int .u8 22), .lit (.int .u8 53), .lit (.int .u8 39), .lit (.int .u8 33), .lit (.int .u8 30), .lit (.int .u8 24), .lit (.int .u8 18), .lit (.int .u8 12), .lit (.int .u8 5), .lit (.int .u8 63), .lit (.int .u8 55), .lit (.int .u8 48), .lit (.int .u8 27), .lit (.int .u8 60), .lit (.int .u8 41), .lit (.int .u8 37), .lit (.int .u8 16), .lit (.int .u8 46), .lit (.int .u8 35), .lit (.int .u8 44), .lit (.int .u8 21), .lit (.int .u8 52), .lit (.int .u8 32), .lit (.int .u8 23), .lit (.int .u8 11), .lit (.int .u8 54), .lit (.int .u8 26), .lit (.int .u8 40), .lit (.int .u8 15), .lit (.int .u8 34), .lit (.int .u8 20), .lit (.int .u8 31), .lit (.int .u8 10), .lit (.int .u8 25), .lit (.int .u8 14), .lit (.int .u8 19), .lit (.int .u8 9), .lit (.int .u8 13), .lit (.int .u8 8), .lit (.int .u8 7), .lit (.int .u8 6)]
def laid_internal_strconv_uint64pow10 {H : Type} : DataW H := .agg [.lit (.int .u64 1), .lit (.int .u64 10), .lit (.int .u64 100), .lit (.int .u64 1000), .lit (.int .u64 10000), .lit (.int .u64 100000), .lit (.int .u64 1000000), .lit (.int .u64 10000000), .lit (.int .u64 100000000), .lit (.int .u64 1000000000), .lit (.int .u64 10000000000), .lit (.int .u64 100000000000), .lit (.int .u64 1000000000000), .lit (.int .u64 10000000000000), .lit (.int .u64 100000000000000), .lit (.int .u64 1000000000000000), .lit (.int .u64 10000000000000000), .lit (.int .u64 100000000000000000), .lit (.int .u64 1000000000000000000), .lit (.int .u64 10000000000000000000)]
def laid_unicode_utf8_acceptRanges {H : Type} : DataW H := .agg [.agg [.lit (.int .u8 128), .lit (.int .u8 191)], .agg [.lit (.int .u8 160), .lit (.int .u8 191)], .agg [.lit (.int .u8 128), .lit (.int .u8 159)], .agg [.lit (.int .u8 144), .lit (.int .u8 191)], .agg [.lit (.int .u8 128), .lit (.int .u8 143)], .agg [.lit (.int .u8 0), .lit (.int .u8 0)], .agg [.lit (.int .u8 0), .lit (.int .u8 0)], .agg [.lit (.int .u8 0), .lit (.int .u8 0)], .agg [.lit (.int .u8 0), .lit (.int .u8 0)], .agg [.lit (.int .u8 0), .lit (.int .u8 0)], .agg [.lit (.int .u8 0), .lit (.int .u8 0)], .agg [.lit (.int .u8 0), .lit (.int .u8 0)], .agg [.lit (.int .u8 0), .lit (.int .u8 0)], .agg [.lit (.int .u8 0), .lit (.int .u8 0)], .agg [.lit (.int .u8 0), .lit (.int .u8 0)], .agg [.lit (.int .u8 0), .lit (.int .u8 0)]]
def laid_loop_example_g00632_impl_codeWords {H : Type} : DataW H := .agg [.lit (.string [111, 107]), .lit (.string [98, 97, 100]), .lit (.string [108, 111, 110, 103]), .lit (.string [102, 111, 114, 109]), .lit (.string [114, 97, 110, 103, 101]), .lit (.string [110, 111, 110, 101]), .lit (.string [109, 97, 110, 121]), .lit (.string [102, 117, 108, 108]), .lit (.string [115, 105, 122, 101]), .lit (.string [115, 117, 109]), .lit (.string [100, 111, 110, 101]), .lit (.string [98, 108, 111, 99, 107, 101, 100]), .lit (.string [97, 115, 115, 101, 114, 116]), .lit (.string [102, 97, 117, 108, 116]), .lit (.string [100, 101, 97, 100, 108, 111, 99, 107]), .lit (.string [98, 117, 100, 103, 101, 116]), .lit (.string [100, 111, 119, 110]), .lit (.string [117, 112]), .lit (.string [116, 111, 114, 110]), .lit (.string [118, 101, 114, 115, 105, 111, 110])]
/-- One of Go's own tables, pinned by name: the form's constant. -/
def laid_unicode_utf8_first : DataW Unit := Go.Pinned.utf8First

/-- 'laws.FnStep': WHATEVER THE INPUT: true; the input reads as it did. -/
def fnStepSpec : ChangeSpec := { name := "fnStep", vars := ["loop.example/g00632/impl.vmShape"], fn := fun _ => fun
  | [d1, d2, g1] => { results := [.lit (.bool true)], args := [d1, d2], vars := [g1] }
  | _ => none }
def fnStepRow : OpenClaim := { program := "ytkmnnmgopnoffaadoor", sum := "06e0eb0b09b1cc390e0c249ea11efe97091d209ae489bb5dee2236c594849ae9", func := "loop.example/g00632/laws.FnStep", spec := "fnStep", unfollowed := true, recurses := true, named := ["loop.example/g00632/impl.vmShape"], apart := false, laid := [("loop.example/g00632/impl.vmShape", laid_loop_example_g00632_impl_vmShape)] }
def FnStepSaid : Prop := fnStepRow.holds Tryd.pinned (OpenSpec.ofChange fnStepSpec)

/-- ITS FALSE NEIGHBOUR: 'it returns false'. Refute it at one input. -/
def fnStepWrong : ChangeSpec := { name := "fnStep", vars := ["loop.example/g00632/impl.vmShape"], fn := fun _ => fun
  | [d1, d2, g1] => { results := [.lit (.bool false)], args := [d1, d2], vars := [g1] }
  | _ => none }
def FnStepWrongFalsely : Prop := fnStepRow.holds Tryd.pinned (OpenSpec.ofChange fnStepWrong)

/-- 'laws.FnKey': WHATEVER THE INPUT: true; the input reads as it did. -/
def fnKeySpec : ChangeSpec := { name := "fnKey", vars := ["loop.example/g00632/impl.vmShape"], fn := fun _ => fun
  | [d1, d2, g1] => { results := [.lit (.bool true)], args := [d1, d2], vars := [g1] }
  | _ => none }
def fnKeyRow : OpenClaim := { program := "ytkmnnmgopnoffaadoor", sum := "06e0eb0b09b1cc390e0c249ea11efe97091d209ae489bb5dee2236c594849ae9", func := "loop.example/g00632/laws.FnKey", spec := "fnKey", unfollowed := true, recurses := true, named := ["loop.example/g00632/impl.vmShape"], apart := false, laid := [("loop.example/g00632/impl.vmShape", laid_loop_example_g00632_impl_vmShape)] }
def FnKeySaid : Prop := fnKeyRow.holds Tryd.pinned (OpenSpec.ofChange fnKeySpec)

/-- ITS FALSE NEIGHBOUR: 'it returns false'. Refute it at one input. -/
def fnKeyWrong : ChangeSpec := { name := "fnKey", vars := ["loop.example/g00632/impl.vmShape"], fn := fun _ => fun
  | [d1, d2, g1] => { results := [.lit (.bool false)], args := [d1, d2], vars := [g1] }
  | _ => none }
def FnKeyWrongFalsely : Prop := fnKeyRow.holds Tryd.pinned (OpenSpec.ofChange fnKeyWrong)

/-- 'laws.FnBugs': WHATEVER THE INPUT: true; the input reads as it did. -/
def fnBugsSpec : ChangeSpec := { name := "fnBugs", vars := ["loop.example/g00632/impl.codeWords"], fn := fun _ => fun
  | [d1, d2, g1] => { results := [.lit (.bool true)], args := [d1, d2], vars := [g1] }
  | _ => none }
def fnBugsRow : OpenClaim := { program := "ytkmnnmgopnoffaadoor", sum := "06e0eb0b09b1cc390e0c249ea11efe97091d209ae489bb5dee2236c594849ae9", func := "loop.example/g00632/laws.FnBugs", spec := "fnBugs", inPlace := ["internal/bytealg.CountString", "internal/bytealg.IndexByteString", "internal/bytealg.IndexString"], unfollowed := true, recurses := true, named := ["loop.example/g00632/impl.codeWords", "internal/strconv.uint64pow10", "math/bits.deBruijn32tab", "math/bits.deBruijn64tab", "unicode/utf8.first", "unicode/utf8.acceptRanges", "internal/bytealg.MaxLen"], apart := false, laid := [("math/bits.deBruijn32tab", laid_math_bits_deBruijn32tab), ("math/bits.deBruijn64tab", laid_math_bits_deBruijn64tab), ("internal/strconv.uint64pow10", laid_internal_strconv_uint64pow10), ("unicode/utf8.acceptRanges", laid_unicode_utf8_acceptRanges), ("loop.example/g00632/impl.codeWords", laid_loop_example_g00632_impl_codeWords), ("unicode/utf8.first", laid_unicode_utf8_first)] }
def FnBugsSaid : Prop := fnBugsRow.holds Tryd.pinned (OpenSpec.ofChange fnBugsSpec)

/-- ITS FALSE NEIGHBOUR: 'it returns false'. Refute it at one input. -/
def fnBugsWrong : ChangeSpec := { name := "fnBugs", vars := ["loop.example/g00632/impl.codeWords"], fn := fun _ => fun
  | [d1, d2, g1] => { results := [.lit (.bool false)], args := [d1, d2], vars := [g1] }
  | _ => none }
def FnBugsWrongFalsely : Prop := fnBugsRow.holds Tryd.pinned (OpenSpec.ofChange fnBugsWrong)

/-- 'laws.FnRun': WHATEVER THE INPUT: true; the input reads as it did. -/
def fnRunSpec : ChangeSpec := { name := "fnRun", vars := ["loop.example/g00632/impl.vmShape"], fn := fun _ => fun
  | [d1, d2, g1] => { results := [.lit (.bool true)], args := [d1, d2], vars := [g1] }
  | _ => none }
def fnRunRow : OpenClaim := { program := "ytkmnnmgopnoffaadoor", sum := "06e0eb0b09b1cc390e0c249ea11efe97091d209ae489bb5dee2236c594849ae9", func := "loop.example/g00632/laws.FnRun", spec := "fnRun", unfollowed := true, recurses := true, named := ["loop.example/g00632/impl.vmShape"], apart := false, laid := [("loop.example/g00632/impl.vmShape", laid_loop_example_g00632_impl_vmShape)] }
def FnRunSaid : Prop := fnRunRow.holds Tryd.pinned (OpenSpec.ofChange fnRunSpec)

/-- ITS FALSE NEIGHBOUR: 'it returns false'. Refute it at one input. -/
def fnRunWrong : ChangeSpec := { name := "fnRun", vars := ["loop.example/g00632/impl.vmShape"], fn := fun _ => fun
  | [d1, d2, g1] => { results := [.lit (.bool false)], args := [d1, d2], vars := [g1] }
  | _ => none }
def FnRunWrongFalsely : Prop := fnRunRow.holds Tryd.pinned (OpenSpec.ofChange fnRunWrong)

/-- 'laws.FnExactIsDone': WHATEVER THE INPUT: true; the input reads as it did. -/
def fnExactIsDoneSpec : ChangeSpec := { name := "fnExactIsDone", vars := ["loop.example/g00632/impl.vmShape"], fn := fun _ => fun
  | [d1, d2, d3, g1] => { results := [.lit (.bool true)], args := [d1, d2, d3], vars := [g1] }
  | _ => none }
def fnExactIsDoneRow : OpenClaim := { program := "ytkmnnmgopnoffaadoor", sum := "06e0eb0b09b1cc390e0c249ea11efe97091d209ae489bb5dee2236c594849ae9", func := "loop.example/g00632/laws.FnExactIsDone", spec := "fnExactIsDone", unfollowed := true, recurses := true, named := ["loop.example/g00632/impl.vmShape"], apart := false, laid := [("loop.example/g00632/impl.vmShape", laid_loop_example_g00632_impl_vmShape)] }
def FnExactIsDoneSaid : Prop := fnExactIsDoneRow.holds Tryd.pinned (OpenSpec.ofChange fnExactIsDoneSpec)

/-- ITS FALSE NEIGHBOUR: 'it returns false'. Refute it at one input. -/
def fnExactIsDoneWrong : ChangeSpec := { name := "fnExactIsDone", vars := ["loop.example/g00632/impl.vmShape"], fn := fun _ => fun
  | [d1, d2, d3, g1] => { results := [.lit (.bool false)], args := [d1, d2, d3], vars := [g1] }
  | _ => none }
def FnExactIsDoneWrongFalsely : Prop := fnExactIsDoneRow.holds Tryd.pinned (OpenSpec.ofChange fnExactIsDoneWrong)

/-- 'laws.FnExactStepVm': WHATEVER THE INPUT: true; the input reads as it did. -/
def fnExactStepVmSpec : ChangeSpec := { name := "fnExactStepVm", vars := ["loop.example/g00632/impl.vmShape"], fn := fun _ => fun
  | [d1, d2, d3, g1] => { results := [.lit (.bool true)], args := [d1, d2, d3], vars := [g1] }
  | _ => none }
def fnExactStepVmRow : OpenClaim := { program := "ytkmnnmgopnoffaadoor", sum := "06e0eb0b09b1cc390e0c249ea11efe97091d209ae489bb5dee2236c594849ae9", func := "loop.example/g00632/laws.FnExactStepVm", spec := "fnExactStepVm", unfollowed := true, recurses := true, named := ["loop.example/g00632/impl.vmShape"], apart := false, laid := [("loop.example/g00632/impl.vmShape", laid_loop_example_g00632_impl_vmShape)] }
def FnExactStepVmSaid : Prop := fnExactStepVmRow.holds Tryd.pinned (OpenSpec.ofChange fnExactStepVmSpec)

/-- ITS FALSE NEIGHBOUR: 'it returns false'. Refute it at one input. -/
def fnExactStepVmWrong : ChangeSpec := { name := "fnExactStepVm", vars := ["loop.example/g00632/impl.vmShape"], fn := fun _ => fun
  | [d1, d2, d3, g1] => { results := [.lit (.bool false)], args := [d1, d2, d3], vars := [g1] }
  | _ => none }
def FnExactStepVmWrongFalsely : Prop := fnExactStepVmRow.holds Tryd.pinned (OpenSpec.ofChange fnExactStepVmWrong)

/-- 'laws.FnExactBugText': WHATEVER THE INPUT: true; the input reads as it did. -/
def fnExactBugTextSpec : ChangeSpec := { name := "fnExactBugText", vars := ["loop.example/g00632/impl.codeWords"], fn := fun _ => fun
  | [d, g1] => { results := [.lit (.bool true)], args := [d], vars := [g1] }
  | _ => none }
def fnExactBugTextRow : OpenClaim := { program := "ytkmnnmgopnoffaadoor", sum := "06e0eb0b09b1cc390e0c249ea11efe97091d209ae489bb5dee2236c594849ae9", func := "loop.example/g00632/laws.FnExactBugText", spec := "fnExactBugText", recurses := true, named := ["loop.example/g00632/impl.codeWords", "internal/strconv.uint64pow10", "math/bits.deBruijn32tab", "math/bits.deBruijn64tab"], apart := false, laid := [("math/bits.deBruijn32tab", laid_math_bits_deBruijn32tab), ("math/bits.deBruijn64tab", laid_math_bits_deBruijn64tab), ("internal/strconv.uint64pow10", laid_internal_strconv_uint64pow10), ("loop.example/g00632/impl.codeWords", laid_loop_example_g00632_impl_codeWords)] }
def FnExactBugTextSaid : Prop := fnExactBugTextRow.holds Tryd.pinned (OpenSpec.ofChange fnExactBugTextSpec)

/-- ITS FALSE NEIGHBOUR: 'it returns false'. Refute it at one input. -/
def fnExactBugTextWrong : ChangeSpec := { name := "fnExactBugText", vars := ["loop.example/g00632/impl.codeWords"], fn := fun _ => fun
  | [d, g1] => { results := [.lit (.bool false)], args := [d], vars := [g1] }
  | _ => none }
def FnExactBugTextWrongFalsely : Prop := fnExactBugTextRow.holds Tryd.pinned (OpenSpec.ofChange fnExactBugTextWrong)

/-- 'laws.FnExactReadBug': WHATEVER THE INPUT: true; the input reads as it did. -/
def fnExactReadBugSpec : ChangeSpec := { name := "fnExactReadBug", vars := ["loop.example/g00632/impl.codeWords"], fn := fun _ => fun
  | [d, g1] => { results := [.lit (.bool true)], args := [d], vars := [g1] }
  | _ => none }
def fnExactReadBugRow : OpenClaim := { program := "ytkmnnmgopnoffaadoor", sum := "06e0eb0b09b1cc390e0c249ea11efe97091d209ae489bb5dee2236c594849ae9", func := "loop.example/g00632/laws.FnExactReadBug", spec := "fnExactReadBug", inPlace := ["internal/bytealg.CountString", "internal/bytealg.IndexByteString", "internal/bytealg.IndexString"], recurses := true, named := ["unicode/utf8.first", "unicode/utf8.acceptRanges", "internal/bytealg.MaxLen", "loop.example/g00632/impl.codeWords"], apart := false, laid := [("unicode/utf8.acceptRanges", laid_unicode_utf8_acceptRanges), ("loop.example/g00632/impl.codeWords", laid_loop_example_g00632_impl_codeWords), ("unicode/utf8.first", laid_unicode_utf8_first)] }
def FnExactReadBugSaid : Prop := fnExactReadBugRow.holds Tryd.pinned (OpenSpec.ofChange fnExactReadBugSpec)

/-- ITS FALSE NEIGHBOUR: 'it returns false'. Refute it at one input. -/
def fnExactReadBugWrong : ChangeSpec := { name := "fnExactReadBug", vars := ["loop.example/g00632/impl.codeWords"], fn := fun _ => fun
  | [d, g1] => { results := [.lit (.bool false)], args := [d], vars := [g1] }
  | _ => none }
def FnExactReadBugWrongFalsely : Prop := fnExactReadBugRow.holds Tryd.pinned (OpenSpec.ofChange fnExactReadBugWrong)

/-- 'laws.FnExactIsWitness': WHATEVER THE INPUT: true; the input reads as it did. -/
def fnExactIsWitnessSpec : ChangeSpec := { name := "fnExactIsWitness", vars := ["loop.example/g00632/impl.vmShape"], fn := fun _ => fun
  | [d1, d2, d3, g1] => { results := [.lit (.bool true)], args := [d1, d2, d3], vars := [g1] }
  | _ => none }
def fnExactIsWitnessRow : OpenClaim := { program := "ytkmnnmgopnoffaadoor", sum := "06e0eb0b09b1cc390e0c249ea11efe97091d209ae489bb5dee2236c594849ae9", func := "loop.example/g00632/laws.FnExactIsWitness", spec := "fnExactIsWitness", unfollowed := true, recurses := true, named := ["loop.example/g00632/impl.vmShape"], apart := false, laid := [("loop.example/g00632/impl.vmShape", laid_loop_example_g00632_impl_vmShape)] }
def FnExactIsWitnessSaid : Prop := fnExactIsWitnessRow.holds Tryd.pinned (OpenSpec.ofChange fnExactIsWitnessSpec)

/-- ITS FALSE NEIGHBOUR: 'it returns false'. Refute it at one input. -/
def fnExactIsWitnessWrong : ChangeSpec := { name := "fnExactIsWitness", vars := ["loop.example/g00632/impl.vmShape"], fn := fun _ => fun
  | [d1, d2, d3, g1] => { results := [.lit (.bool false)], args := [d1, d2, d3], vars := [g1] }
  | _ => none }
def FnExactIsWitnessWrongFalsely : Prop := fnExactIsWitnessRow.holds Tryd.pinned (OpenSpec.ofChange fnExactIsWitnessWrong)

/- THE SECOND FORM. 'bulk': how many values and letters a reading holds, each counted each time it is reached (what is shared counts as often as it is met; a slice's spare places count too). A statement '..UptoSaid' is the law's where the arguments, and the package variables that the reading takes, are together of bulk at most 1048576: NARROWER than '..Said'. Prove '..Said' where nothing that the law and all that it calls make is longer than what came in: it says more and counts as full. Else prove '..UptoSaid'. A law counts once. -/
mutual
def uptoBulk {H : Type} : DataW H → Nat
  | .lit (.string bytes) => bytes.length + 1
  | .lit _ => 1
  | .nil => 1
  | .ptr d => uptoBulk d + 1
  | .slice elems spare => uptoBulkAll elems + uptoBulkAll spare + 1
  | .agg parts => uptoBulkAll parts + 1
  | .iface _ d => uptoBulk d + 1
  | .map entries => uptoBulkEntries entries + 1
  | .held _ => 1
def uptoBulkAll {H : Type} : List (DataW H) → Nat
  | [] => 0
  | d :: r => uptoBulk d + uptoBulkAll r
def uptoBulkEntries {H : Type} : List (Lit × DataW H) → Nat
  | [] => 0
  | x :: r => uptoBulkEntry x + uptoBulkEntries r
def uptoBulkEntry {H : Type} : Lit × DataW H → Nat
  | (.string bytes, d) => bytes.length + uptoBulk d + 1
  | (_, d) => uptoBulk d + 1
 end
def uptoSmall : (H : Type) → List (DataW H) → Bool := fun _ ds => decide (uptoBulkAll ds ≤ 1048576)
def OpenSpec.upto (s : _root_.Go.ChangeSpec) : _root_.Go.OpenSpec := { _root_.Go.OpenSpec.ofChange s with cond := some uptoSmall }

/-- 'laws.FnStep', WHERE WHAT IT READS IS OF BULK AT MOST 1048576: true; the input reads as it did. -/
def fnStepUptoRow : OpenClaim := { program := "ytkmnnmgopnoffaadoor", sum := "06e0eb0b09b1cc390e0c249ea11efe97091d209ae489bb5dee2236c594849ae9", func := "loop.example/g00632/laws.FnStep", spec := "fnStep", unfollowed := true, recurses := true, named := ["loop.example/g00632/impl.vmShape"], apart := false, laid := [("loop.example/g00632/impl.vmShape", laid_loop_example_g00632_impl_vmShape)], narrowed := true }
def FnStepUptoSaid : Prop := fnStepUptoRow.holds Tryd.pinned (OpenSpec.upto fnStepSpec)

/-- 'laws.FnKey', WHERE WHAT IT READS IS OF BULK AT MOST 1048576: true; the input reads as it did. -/
def fnKeyUptoRow : OpenClaim := { program := "ytkmnnmgopnoffaadoor", sum := "06e0eb0b09b1cc390e0c249ea11efe97091d209ae489bb5dee2236c594849ae9", func := "loop.example/g00632/laws.FnKey", spec := "fnKey", unfollowed := true, recurses := true, named := ["loop.example/g00632/impl.vmShape"], apart := false, laid := [("loop.example/g00632/impl.vmShape", laid_loop_example_g00632_impl_vmShape)], narrowed := true }
def FnKeyUptoSaid : Prop := fnKeyUptoRow.holds Tryd.pinned (OpenSpec.upto fnKeySpec)

/-- 'laws.FnBugs', WHERE WHAT IT READS IS OF BULK AT MOST 1048576: true; the input reads as it did. -/
def fnBugsUptoRow : OpenClaim := { program := "ytkmnnmgopnoffaadoor", sum := "06e0eb0b09b1cc390e0c249ea11efe97091d209ae489bb5dee2236c594849ae9", func := "loop.example/g00632/laws.FnBugs", spec := "fnBugs", inPlace := ["internal/bytealg.CountString", "internal/bytealg.IndexByteString", "internal/bytealg.IndexString"], unfollowed := true, recurses := true, named := ["loop.example/g00632/impl.codeWords", "internal/strconv.uint64pow10", "math/bits.deBruijn32tab", "math/bits.deBruijn64tab", "unicode/utf8.first", "unicode/utf8.acceptRanges", "internal/bytealg.MaxLen"], apart := false, laid := [("math/bits.deBruijn32tab", laid_math_bits_deBruijn32tab), ("math/bits.deBruijn64tab", laid_math_bits_deBruijn64tab), ("internal/strconv.uint64pow10", laid_internal_strconv_uint64pow10), ("unicode/utf8.acceptRanges", laid_unicode_utf8_acceptRanges), ("loop.example/g00632/impl.codeWords", laid_loop_example_g00632_impl_codeWords), ("unicode/utf8.first", laid_unicode_utf8_first)], narrowed := true }
def FnBugsUptoSaid : Prop := fnBugsUptoRow.holds Tryd.pinned (OpenSpec.upto fnBugsSpec)

/-- 'laws.FnRun', WHERE WHAT IT READS IS OF BULK AT MOST 1048576: true; the input reads as it did. -/
def fnRunUptoRow : OpenClaim := { program := "ytkmnnmgopnoffaadoor", sum := "06e0eb0b09b1cc390e0c249ea11efe97091d209ae489bb5dee2236c594849ae9", func := "loop.example/g00632/laws.FnRun", spec := "fnRun", unfollowed := true, recurses := true, named := ["loop.example/g00632/impl.vmShape"], apart := false, laid := [("loop.example/g00632/impl.vmShape", laid_loop_example_g00632_impl_vmShape)], narrowed := true }
def FnRunUptoSaid : Prop := fnRunUptoRow.holds Tryd.pinned (OpenSpec.upto fnRunSpec)

/-- 'laws.FnExactIsDone', WHERE WHAT IT READS IS OF BULK AT MOST 1048576: true; the input reads as it did. -/
def fnExactIsDoneUptoRow : OpenClaim := { program := "ytkmnnmgopnoffaadoor", sum := "06e0eb0b09b1cc390e0c249ea11efe97091d209ae489bb5dee2236c594849ae9", func := "loop.example/g00632/laws.FnExactIsDone", spec := "fnExactIsDone", unfollowed := true, recurses := true, named := ["loop.example/g00632/impl.vmShape"], apart := false, laid := [("loop.example/g00632/impl.vmShape", laid_loop_example_g00632_impl_vmShape)], narrowed := true }
def FnExactIsDoneUptoSaid : Prop := fnExactIsDoneUptoRow.holds Tryd.pinned (OpenSpec.upto fnExactIsDoneSpec)

/-- 'laws.FnExactStepVm', WHERE WHAT IT READS IS OF BULK AT MOST 1048576: true; the input reads as it did. -/
def fnExactStepVmUptoRow : OpenClaim := { program := "ytkmnnmgopnoffaadoor", sum := "06e0eb0b09b1cc390e0c249ea11efe97091d209ae489bb5dee2236c594849ae9", func := "loop.example/g00632/laws.FnExactStepVm", spec := "fnExactStepVm", unfollowed := true, recurses := true, named := ["loop.example/g00632/impl.vmShape"], apart := false, laid := [("loop.example/g00632/impl.vmShape", laid_loop_example_g00632_impl_vmShape)], narrowed := true }
def FnExactStepVmUptoSaid : Prop := fnExactStepVmUptoRow.holds Tryd.pinned (OpenSpec.upto fnExactStepVmSpec)

/-- 'laws.FnExactBugText', WHERE WHAT IT READS IS OF BULK AT MOST 1048576: true; the input reads as it did. -/
def fnExactBugTextUptoRow : OpenClaim := { program := "ytkmnnmgopnoffaadoor", sum := "06e0eb0b09b1cc390e0c249ea11efe97091d209ae489bb5dee2236c594849ae9", func := "loop.example/g00632/laws.FnExactBugText", spec := "fnExactBugText", recurses := true, named := ["loop.example/g00632/impl.codeWords", "internal/strconv.uint64pow10", "math/bits.deBruijn32tab", "math/bits.deBruijn64tab"], apart := false, laid := [("math/bits.deBruijn32tab", laid_math_bits_deBruijn32tab), ("math/bits.deBruijn64tab", laid_math_bits_deBruijn64tab), ("internal/strconv.uint64pow10", laid_internal_strconv_uint64pow10), ("loop.example/g00632/impl.codeWords", laid_loop_example_g00632_impl_codeWords)], narrowed := true }
def FnExactBugTextUptoSaid : Prop := fnExactBugTextUptoRow.holds Tryd.pinned (OpenSpec.upto fnExactBugTextSpec)

/-- 'laws.FnExactReadBug', WHERE WHAT IT READS IS OF BULK AT MOST 1048576: true; the input reads as it did. -/
def fnExactReadBugUptoRow : OpenClaim := { program := "ytkmnnmgopnoffaadoor", sum := "06e0eb0b09b1cc390e0c249ea11efe97091d209ae489bb5dee2236c594849ae9", func := "loop.example/g00632/laws.FnExactReadBug", spec := "fnExactReadBug", inPlace := ["internal/bytealg.CountString", "internal/bytealg.IndexByteString", "internal/bytealg.IndexString"], recurses := true, named := ["unicode/utf8.first", "unicode/utf8.acceptRanges", "internal/bytealg.MaxLen", "loop.example/g00632/impl.codeWords"], apart := false, laid := [("unicode/utf8.acceptRanges", laid_unicode_utf8_acceptRanges), ("loop.example/g00632/impl.codeWords", laid_loop_example_g00632_impl_codeWords), ("unicode/utf8.first", laid_unicode_utf8_first)], narrowed := true }
def FnExactReadBugUptoSaid : Prop := fnExactReadBugUptoRow.holds Tryd.pinned (OpenSpec.upto fnExactReadBugSpec)

/-- 'laws.FnExactIsWitness', WHERE WHAT IT READS IS OF BULK AT MOST 1048576: true; the input reads as it did. -/
def fnExactIsWitnessUptoRow : OpenClaim := { program := "ytkmnnmgopnoffaadoor", sum := "06e0eb0b09b1cc390e0c249ea11efe97091d209ae489bb5dee2236c594849ae9", func := "loop.example/g00632/laws.FnExactIsWitness", spec := "fnExactIsWitness", unfollowed := true, recurses := true, named := ["loop.example/g00632/impl.vmShape"], apart := false, laid := [("loop.example/g00632/impl.vmShape", laid_loop_example_g00632_impl_vmShape)], narrowed := true }
def FnExactIsWitnessUptoSaid : Prop := fnExactIsWitnessUptoRow.holds Tryd.pinned (OpenSpec.upto fnExactIsWitnessSpec)

end Rows
end Go.Proofs.YtkmnnmgopnoffaaDoor
