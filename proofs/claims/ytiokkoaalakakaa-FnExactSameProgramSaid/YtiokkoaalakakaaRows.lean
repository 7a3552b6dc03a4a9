/-
  No cell of these rows narrows 'for every input' (looked for: loops, veiled, ifaces, maps, wideKeys, modest, calm, conditions, laid).
  DERIVED. THE GIVEN ROWS OF THIS SEAT. 4 by the template 'for every input the law returns true; each argument reads behind the call as it read before'; 0 by the template 'total and deterministic' (their statements: YtiokkoaalakakaaTotals.lean).
  GIVEN WITH THE SEED: the statements are not yours to turn. If you find one false, say at which input.
  Laid BY PROGRAM, IN A SANDBOX (cutbox-rows.mjs): the forced cells as the released guide's own fill.sh prints them over the translation 6eabf3e53b47e6cb… (all of the seat's roots in one cut). By AI agents, Wed Nov 11 2026. No macro, syntax, notation, axiom, sorry.
-/
import Derived.Test.YtiokkoaalakakaaChecked
import GoSem.Claim
import GoSem.ClaimJoined
import GoSem.ClaimMapViews
import Derived.JoinedTies
import Derived.KernelRfl
namespace Go.Proofs.Ytiokkoaalakakaa
/- THE CELL 'sum', in the pinned program and in every row, IS THE sha256 OF THE DUMP (.gsa) THAT YtiokkoaalakakaaProg.lean LOADS. Nothing in Lean hashes anything: it is a label: what it is worth is what the hold of that sum in a sandbox is worth. -/
noncomputable def Try.pinned : Pinned := { name := "ytiokkoaalakakaa", sum := "6eabf3e53b47e6cb33e4cacc0e9bf951845043574bff31a618f6dca992eba6a4", checked := Try.checked }
namespace Rows
def none {H : Type} : Left H := { results := [], args := [] }

/-- 'laws.FnExactInstrOK': WHATEVER THE INPUT: true; the input reads as it did. -/
def fnExactInstrOKSpec : ChangeSpec := { name := "fnExactInstrOK", fn := fun _ => fun
  | [d] => { results := [.lit (.bool true)], args := [d] }
  | _ => none }
def fnExactInstrOKRow : OpenClaim := { program := "ytiokkoaalakakaa", sum := "6eabf3e53b47e6cb33e4cacc0e9bf951845043574bff31a618f6dca992eba6a4", func := "loop.example/g00632/laws.FnExactInstrOK", spec := "fnExactInstrOK", unfollowed := true, recurses := true, apart := false }
def FnExactInstrOKSaid : Prop := fnExactInstrOKRow.holds Try.pinned (OpenSpec.ofChange fnExactInstrOKSpec)

/-- ITS FALSE NEIGHBOUR: 'it returns false'. Refute it at one input. -/
def fnExactInstrOKWrong : ChangeSpec := { name := "fnExactInstrOK", fn := fun _ => fun
  | [d] => { results := [.lit (.bool false)], args := [d] }
  | _ => none }
def FnExactInstrOKWrongFalsely : Prop := fnExactInstrOKRow.holds Try.pinned (OpenSpec.ofChange fnExactInstrOKWrong)

/-- 'laws.FnExactProgramOK': WHATEVER THE INPUT: true; the input reads as it did. -/
def fnExactProgramOKSpec : ChangeSpec := { name := "fnExactProgramOK", fn := fun _ => fun
  | [d] => { results := [.lit (.bool true)], args := [d] }
  | _ => none }
def fnExactProgramOKRow : OpenClaim := { program := "ytiokkoaalakakaa", sum := "6eabf3e53b47e6cb33e4cacc0e9bf951845043574bff31a618f6dca992eba6a4", func := "loop.example/g00632/laws.FnExactProgramOK", spec := "fnExactProgramOK", unfollowed := true, recurses := true, apart := false }
def FnExactProgramOKSaid : Prop := fnExactProgramOKRow.holds Try.pinned (OpenSpec.ofChange fnExactProgramOKSpec)

/-- ITS FALSE NEIGHBOUR: 'it returns false'. Refute it at one input. -/
def fnExactProgramOKWrong : ChangeSpec := { name := "fnExactProgramOK", fn := fun _ => fun
  | [d] => { results := [.lit (.bool false)], args := [d] }
  | _ => none }
def FnExactProgramOKWrongFalsely : Prop := fnExactProgramOKRow.holds Try.pinned (OpenSpec.ofChange fnExactProgramOKWrong)

/-- 'laws.FnExactPackProgram': WHATEVER THE INPUT: true; the input reads as it did. -/
def fnExactPackProgramSpec : ChangeSpec := { name := "fnExactPackProgram", fn := fun _ => fun
  | [d] => { results := [.lit (.bool true)], args := [d] }
  | _ => none }
def fnExactPackProgramRow : OpenClaim := { program := "ytiokkoaalakakaa", sum := "6eabf3e53b47e6cb33e4cacc0e9bf951845043574bff31a618f6dca992eba6a4", func := "loop.example/g00632/laws.FnExactPackProgram", spec := "fnExactPackProgram", unfollowed := true, recurses := true, apart := false }
def FnExactPackProgramSaid : Prop := fnExactPackProgramRow.holds Try.pinned (OpenSpec.ofChange fnExactPackProgramSpec)

/-- ITS FALSE NEIGHBOUR: 'it returns false'. Refute it at one input. -/
def fnExactPackProgramWrong : ChangeSpec := { name := "fnExactPackProgram", fn := fun _ => fun
  | [d] => { results := [.lit (.bool false)], args := [d] }
  | _ => none }
def FnExactPackProgramWrongFalsely : Prop := fnExactPackProgramRow.holds Try.pinned (OpenSpec.ofChange fnExactPackProgramWrong)

/-- 'laws.FnExactSameProgram': WHATEVER THE INPUT: true; the input reads as it did. -/
def fnExactSameProgramSpec : ChangeSpec := { name := "fnExactSameProgram", fn := fun _ => fun
  | [d1, d2] => { results := [.lit (.bool true)], args := [d1, d2] }
  | _ => none }
def fnExactSameProgramRow : OpenClaim := { program := "ytiokkoaalakakaa", sum := "6eabf3e53b47e6cb33e4cacc0e9bf951845043574bff31a618f6dca992eba6a4", func := "loop.example/g00632/laws.FnExactSameProgram", spec := "fnExactSameProgram", unfollowed := true, recurses := true, apart := false }
def FnExactSameProgramSaid : Prop := fnExactSameProgramRow.holds Try.pinned (OpenSpec.ofChange fnExactSameProgramSpec)

/-- ITS FALSE NEIGHBOUR: 'it returns false'. Refute it at one input. -/
def fnExactSameProgramWrong : ChangeSpec := { name := "fnExactSameProgram", fn := fun _ => fun
  | [d1, d2] => { results := [.lit (.bool false)], args := [d1, d2] }
  | _ => none }
def FnExactSameProgramWrongFalsely : Prop := fnExactSameProgramRow.holds Try.pinned (OpenSpec.ofChange fnExactSameProgramWrong)

/- THE SECOND FORM. 'bulk': how many values and letters a reading holds, each counted each time it is reached (what is shared counts as often as it is met; a slice's spare places count too). A statement '..UptoSaid' is the law's where the arguments, and the package variables that the reading takes, are together of bulk at most 1048576: NARROWER than '..Said'. Prove '..Said' where nothing that the law and all that it calls make is longer than what came in: it says more and counts as full. Else prove '..UptoSaid'. A law counts once. -/
mutual
def uptoBulk {H : Type} : DataW H → Nat
  | .lit (.string bytes) => bytes.length + 1
  | .lit _ => 1
  | .nil => 1
  | .ptr d => uptoBulk d + 1
  | .slice elems spare => uptoBulkAll elems + uptoBulkAll spare + 1
  | .agg parts => uptoBulkAll parts + 1
  | .iface _ d => uptoBulk d + 1
  | .map entries => uptoBulkEntries entries + 1
  | .held _ => 1
def uptoBulkAll {H : Type} : List (DataW H) → Nat
  | [] => 0
  | d :: r => uptoBulk d + uptoBulkAll r
def uptoBulkEntries {H : Type} : List (Lit × DataW H) → Nat
  | [] => 0
  | x :: r => uptoBulkEntry x + uptoBulkEntries r
def uptoBulkEntry {H : Type} : Lit × DataW H → Nat
  | (.string bytes, d) => bytes.length + uptoBulk d + 1
  | (_, d) => uptoBulk d + 1
 end
def uptoSmall : (H : Type) → List (DataW H) → Bool := fun _ ds => decide (uptoBulkAll ds ≤ 1048576)
def OpenSpec.upto (s : _root_.Go.ChangeSpec) : _root_.Go.OpenSpec := { _root_.Go.OpenSpec.ofChange s with cond := some uptoSmall }

/-- 'laws.FnExactInstrOK', WHERE WHAT IT READS IS OF BULK AT MOST 1048576: true; the input reads as it did. -/
def fnExactInstrOKUptoRow : OpenClaim := { program := "ytiokkoaalakakaa", sum := "6eabf3e53b47e6cb33e4cacc0e9bf951845043574bff31a618f6dca992eba6a4", func := "loop.example/g00632/laws.FnExactInstrOK", spec := "fnExactInstrOK", unfollowed := true, recurses := true, apart := false, narrowed := true }
def FnExactInstrOKUptoSaid : Prop := fnExactInstrOKUptoRow.holds Try.pinned (OpenSpec.upto fnExactInstrOKSpec)

/-- 'laws.FnExactProgramOK', WHERE WHAT IT READS IS OF BULK AT MOST 1048576: true; the input reads as it did. -/
def fnExactProgramOKUptoRow : OpenClaim := { program := "ytiokkoaalakakaa", sum := "6eabf3e53b47e6cb33e4cacc0e9bf951845043574bff31a618f6dca992eba6a4", func := "loop.example/g00632/laws.FnExactProgramOK", spec := "fnExactProgramOK", unfollowed := true, recurses := true, apart := false, narrowed := true }
def FnExactProgramOKUptoSaid : Prop := fnExactProgramOKUptoRow.holds Try.pinned (OpenSpec.upto fnExactProgramOKSpec)

/-- 'laws.FnExactPackProgram', WHERE WHAT IT READS IS OF BULK AT MOST 1048576: true; the input reads as it did. -/
def fnExactPackProgramUptoRow : OpenClaim := { program := "ytiokkoaalakakaa", sum := "6eabf3e53b47e6cb33e4cacc0e9bf951845043574bff31a618f6dca992eba6a4", func := "loop.example/g00632/laws.FnExactPackProgram", spec := "fnExactPackProgram", unfollowed := true, recurses := true, apart := false, narrowed := true }
def FnExactPackProgramUptoSaid : Prop := fnExactPackProgramUptoRow.holds Try.pinned (OpenSpec.upto fnExactPackProgramSpec)

/-- 'laws.FnExactSameProgram', WHERE WHAT IT READS IS OF BULK AT MOST 1048576: true; the input reads as it did. -/
def fnExactSameProgramUptoRow : OpenClaim := { program := "ytiokkoaalakakaa", sum := "6eabf3e53b47e6cb33e4cacc0e9bf951845043574bff31a618f6dca992eba6a4", func := "loop.example/g00632/laws.FnExactSameProgram", spec := "fnExactSameProgram", unfollowed := true, recurses := true, apart := false, narrowed := true }
def FnExactSameProgramUptoSaid : Prop := fnExactSameProgramUptoRow.holds Try.pinned (OpenSpec.upto fnExactSameProgramSpec)

end Rows
end Go.Proofs.Ytiokkoaalakakaa
