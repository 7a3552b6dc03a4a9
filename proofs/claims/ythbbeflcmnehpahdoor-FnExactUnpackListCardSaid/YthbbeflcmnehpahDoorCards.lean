/-
  DERIVED. GIVEN WITH THE SEED: THE CARDS: each row of YthbbeflcmnehpahDoorRows.lean that lists a variable, with what it lists TIED to the program's text (the seventh form; the later family's looks); each row that meets fmt, with fmt's text TOLD by the authors' own Lean function (tested against real Go, not proved from fmt's source: count such statements apart). THE CARD IS WHAT COUNTS. Prove the row's statement (the work); the ties are given (YthbbeflcmnehpahDoorTie.lean); close each card by the builder's one call (the guide's Derived/Test/ToyasCard.lean, 'card_holds'). Laid BY PROGRAM, IN A SANDBOX (cutbox-door.mjs). By AI agents, Wed Nov 11 2026. No macro, syntax, notation, axiom, sorry.
-/
import Derived.Test.YthbbeflcmnehpahDoorRows
import GoSem.ClaimSeven
namespace Go.Proofs.YthbbeflcmnehpahDoor
namespace Rows

/-- THE TIED CARD OF 'laws.FnExactUnpackList'. -/
def fnExactUnpackListCard : Claim7 := { stood := { row := fnExactUnpackListRow, standIns := [], harness := (true, "45bdfc307d85cb65706be020f8a3374be9c8bd48907c8a5525f47ff521df6904"), looks := true }, kinds := [], alts := [], laidByText := true, laidKinds := [.handle], laidTests := true, laidLooks := .later }
def FnExactUnpackListCardSaid : Prop := Claim7.holds Tryd.pinned (.plain (OpenSpec.ofChange fnExactUnpackListSpec)) fnExactUnpackListCard

/-- THE TIED CARD OF 'laws.FnExactUnframeText'. -/
def fnExactUnframeTextCard : Claim7 := { stood := { row := fnExactUnframeTextRow, standIns := [], harness := (true, "45bdfc307d85cb65706be020f8a3374be9c8bd48907c8a5525f47ff521df6904"), looks := true }, kinds := [], alts := [], laidByText := true, laidKinds := [.handle], laidTests := true, laidLooks := .later }
def FnExactUnframeTextCardSaid : Prop := Claim7.holds Tryd.pinned (.plain (OpenSpec.ofChange fnExactUnframeTextSpec)) fnExactUnframeTextCard

/-- THE SECOND FORM's CARD OF 'laws.FnExactUnpackList'. -/
def fnExactUnpackListUptoCard : Claim7 := { stood := { row := fnExactUnpackListUptoRow, standIns := [], harness := (true, "45bdfc307d85cb65706be020f8a3374be9c8bd48907c8a5525f47ff521df6904"), looks := true }, kinds := [], alts := [], laidByText := true, laidKinds := [.handle], laidTests := true, laidLooks := .later }
def FnExactUnpackListUptoCardSaid : Prop := Claim7.holds Tryd.pinned (.plain (OpenSpec.upto fnExactUnpackListSpec)) fnExactUnpackListUptoCard

/-- THE SECOND FORM's CARD OF 'laws.FnExactUnframeText'. -/
def fnExactUnframeTextUptoCard : Claim7 := { stood := { row := fnExactUnframeTextUptoRow, standIns := [], harness := (true, "45bdfc307d85cb65706be020f8a3374be9c8bd48907c8a5525f47ff521df6904"), looks := true }, kinds := [], alts := [], laidByText := true, laidKinds := [.handle], laidTests := true, laidLooks := .later }
def FnExactUnframeTextUptoCardSaid : Prop := Claim7.holds Tryd.pinned (.plain (OpenSpec.upto fnExactUnframeTextSpec)) fnExactUnframeTextUptoCard
end Rows
end Go.Proofs.YthbbeflcmnehpahDoor
