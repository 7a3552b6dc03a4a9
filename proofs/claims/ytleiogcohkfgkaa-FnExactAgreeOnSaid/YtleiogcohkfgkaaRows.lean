/-
  No cell of these rows narrows 'for every input' (looked for: loops, veiled, ifaces, maps, wideKeys, modest, calm, conditions, laid).
  DERIVED. THE GIVEN ROWS OF THIS SEAT. 3 by the template 'for every input the law returns true; each argument reads behind the call as it read before'; 0 by the template 'total and deterministic' (their statements: YtleiogcohkfgkaaTotals.lean).
  GIVEN WITH THE SEED: the statements are not yours to turn. If you find one false, say at which input.
  Laid BY PROGRAM, IN A SANDBOX (cutbox-rows.mjs): the forced cells as the released guide's own fill.sh prints them over the translation e0806596d07da6fa… (all of the seat's roots in one cut). By AI agents, Wed Nov 11 2026. No macro, syntax, notation, axiom, sorry.
-/
import Derived.Test.YtleiogcohkfgkaaChecked
import GoSem.Claim
import GoSem.ClaimJoined
import GoSem.ClaimMapViews
import Derived.JoinedTies
import Derived.KernelRfl
namespace Go.Proofs.Ytleiogcohkfgkaa
/- THE CELL 'sum', in the pinned program and in every row, IS THE sha256 OF THE DUMP (.gsa) THAT YtleiogcohkfgkaaProg.lean LOADS. Nothing in Lean hashes anything: it is a label: what it is worth is what the hold of that sum in a sandbox is worth. -/
noncomputable def Try.pinned : Pinned := { name := "ytleiogcohkfgkaa", sum := "e0806596d07da6faada62f543b5695095ca412345ed035dba2f9f7453855578c", checked := Try.checked }
namespace Rows
def none {H : Type} : Left H := { results := [], args := [] }

/-- 'laws.FnExactChangedItems': WHATEVER THE INPUT: true; the input reads as it did. -/
def fnExactChangedItemsSpec : ChangeSpec := { name := "fnExactChangedItems", fn := fun _ => fun
  | [d1, d2] => { results := [.lit (.bool true)], args := [d1, d2] }
  | _ => none }
def fnExactChangedItemsRow : OpenClaim := { program := "ytleiogcohkfgkaa", sum := "e0806596d07da6faada62f543b5695095ca412345ed035dba2f9f7453855578c", func := "loop.example/g00632/laws.FnExactChangedItems", spec := "fnExactChangedItems", unfollowed := true, recurses := true, apart := false }
def FnExactChangedItemsSaid : Prop := fnExactChangedItemsRow.holds Try.pinned (OpenSpec.ofChange fnExactChangedItemsSpec)

/-- ITS FALSE NEIGHBOUR: 'it returns false'. Refute it at one input. -/
def fnExactChangedItemsWrong : ChangeSpec := { name := "fnExactChangedItems", fn := fun _ => fun
  | [d1, d2] => { results := [.lit (.bool false)], args := [d1, d2] }
  | _ => none }
def FnExactChangedItemsWrongFalsely : Prop := fnExactChangedItemsRow.holds Try.pinned (OpenSpec.ofChange fnExactChangedItemsWrong)

/-- 'laws.FnExactInstrAt': WHATEVER THE INPUT: true; the input reads as it did. -/
def fnExactInstrAtSpec : ChangeSpec := { name := "fnExactInstrAt", fn := fun _ => fun
  | [d1, d2] => { results := [.lit (.bool true)], args := [d1, d2] }
  | _ => none }
def fnExactInstrAtRow : OpenClaim := { program := "ytleiogcohkfgkaa", sum := "e0806596d07da6faada62f543b5695095ca412345ed035dba2f9f7453855578c", func := "loop.example/g00632/laws.FnExactInstrAt", spec := "fnExactInstrAt", unfollowed := true, recurses := true, apart := false }
def FnExactInstrAtSaid : Prop := fnExactInstrAtRow.holds Try.pinned (OpenSpec.ofChange fnExactInstrAtSpec)

/-- ITS FALSE NEIGHBOUR: 'it returns false'. Refute it at one input. -/
def fnExactInstrAtWrong : ChangeSpec := { name := "fnExactInstrAt", fn := fun _ => fun
  | [d1, d2] => { results := [.lit (.bool false)], args := [d1, d2] }
  | _ => none }
def FnExactInstrAtWrongFalsely : Prop := fnExactInstrAtRow.holds Try.pinned (OpenSpec.ofChange fnExactInstrAtWrong)

/-- 'laws.FnExactAgreeOn': WHATEVER THE INPUT: true; the input reads as it did. -/
def fnExactAgreeOnSpec : ChangeSpec := { name := "fnExactAgreeOn", fn := fun _ => fun
  | [d1, d2, d3] => { results := [.lit (.bool true)], args := [d1, d2, d3] }
  | _ => none }
def fnExactAgreeOnRow : OpenClaim := { program := "ytleiogcohkfgkaa", sum := "e0806596d07da6faada62f543b5695095ca412345ed035dba2f9f7453855578c", func := "loop.example/g00632/laws.FnExactAgreeOn", spec := "fnExactAgreeOn", unfollowed := true, recurses := true, apart := false }
def FnExactAgreeOnSaid : Prop := fnExactAgreeOnRow.holds Try.pinned (OpenSpec.ofChange fnExactAgreeOnSpec)

/-- ITS FALSE NEIGHBOUR: 'it returns false'. Refute it at one input. -/
def fnExactAgreeOnWrong : ChangeSpec := { name := "fnExactAgreeOn", fn := fun _ => fun
  | [d1, d2, d3] => { results := [.lit (.bool false)], args := [d1, d2, d3] }
  | _ => none }
def FnExactAgreeOnWrongFalsely : Prop := fnExactAgreeOnRow.holds Try.pinned (OpenSpec.ofChange fnExactAgreeOnWrong)

/- THE SECOND FORM. 'bulk': how many values and letters a reading holds, each counted each time it is reached (what is shared counts as often as it is met; a slice's spare places count too). A statement '..UptoSaid' is the law's where the arguments, and the package variables that the reading takes, are together of bulk at most 1048576: NARROWER than '..Said'. Prove '..Said' where nothing that the law and all that it calls make is longer than what came in: it says more and counts as full. Else prove '..UptoSaid'. A law counts once. -/
mutual
def uptoBulk {H : Type} : DataW H → Nat
  | .lit (.string bytes) => bytes.length + 1
  | .lit _ => 1
  | .nil => 1
  | .ptr d => uptoBulk d + 1
  | .slice elems spare => uptoBulkAll elems + uptoBulkAll spare + 1
  | .agg parts => uptoBulkAll parts + 1
  | .iface _ d => uptoBulk d + 1
  | .map entries => uptoBulkEntries entries + 1
  | .held _ => 1
def uptoBulkAll {H : Type} : List (DataW H) → Nat
  | [] => 0
  | d :: r => uptoBulk d + uptoBulkAll r
def uptoBulkEntries {H : Type} : List (Lit × DataW H) → Nat
  | [] => 0
  | x :: r => uptoBulkEntry x + uptoBulkEntries r
def uptoBulkEntry {H : Type} : Lit × DataW H → Nat
  | (.string bytes, d) => bytes.length + uptoBulk d + 1
  | (_, d) => uptoBulk d + 1
 end
def uptoSmall : (H : Type) → List (DataW H) → Bool := fun _ ds => decide (uptoBulkAll ds ≤ 1048576)
def OpenSpec.upto (s : _root_.Go.ChangeSpec) : _root_.Go.OpenSpec := { _root_.Go.OpenSpec.ofChange s with cond := some uptoSmall }

/-- 'laws.FnExactChangedItems', WHERE WHAT IT READS IS OF BULK AT MOST 1048576: true; the input reads as it did. -/
def fnExactChangedItemsUptoRow : OpenClaim := { program := "ytleiogcohkfgkaa", sum := "e0806596d07da6faada62f543b5695095ca412345ed035dba2f9f7453855578c", func := "loop.example/g00632/laws.FnExactChangedItems", spec := "fnExactChangedItems", unfollowed := true, recurses := true, apart := false, narrowed := true }
def FnExactChangedItemsUptoSaid : Prop := fnExactChangedItemsUptoRow.holds Try.pinned (OpenSpec.upto fnExactChangedItemsSpec)

/-- 'laws.FnExactInstrAt', WHERE WHAT IT READS IS OF BULK AT MOST 1048576: true; the input reads as it did. -/
def fnExactInstrAtUptoRow : OpenClaim := { program := "ytleiogcohkfgkaa", sum := "e0806596d07da6faada62f543b5695095ca412345ed035dba2f9f7453855578c", func := "loop.example/g00632/laws.FnExactInstrAt", spec := "fnExactInstrAt", unfollowed := true, recurses := true, apart := false, narrowed := true }
def FnExactInstrAtUptoSaid : Prop := fnExactInstrAtUptoRow.holds Try.pinned (OpenSpec.upto fnExactInstrAtSpec)

/-- 'laws.FnExactAgreeOn', WHERE WHAT IT READS IS OF BULK AT MOST 1048576: true; the input reads as it did. -/
def fnExactAgreeOnUptoRow : OpenClaim := { program := "ytleiogcohkfgkaa", sum := "e0806596d07da6faada62f543b5695095ca412345ed035dba2f9f7453855578c", func := "loop.example/g00632/laws.FnExactAgreeOn", spec := "fnExactAgreeOn", unfollowed := true, recurses := true, apart := false, narrowed := true }
def FnExactAgreeOnUptoSaid : Prop := fnExactAgreeOnUptoRow.holds Try.pinned (OpenSpec.upto fnExactAgreeOnSpec)

end Rows
end Go.Proofs.Ytleiogcohkfgkaa
