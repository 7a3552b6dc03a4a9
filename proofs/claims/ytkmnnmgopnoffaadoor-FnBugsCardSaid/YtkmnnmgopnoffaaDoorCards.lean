/-
  DERIVED. GIVEN WITH THE SEED: THE CARDS: each row of YtkmnnmgopnoffaaDoorRows.lean that lists a variable, with what it lists TIED to the program's text (the seventh form; the later family's looks); each row that meets fmt, with fmt's text TOLD by the authors' own Lean function (tested against real Go, not proved from fmt's source: count such statements apart). THE CARD IS WHAT COUNTS. Prove the row's statement (the work); the ties are given (YtkmnnmgopnoffaaDoorTie.lean); close each card by the builder's one call (the guide's Derived/Test/ToyasCard.lean, 'card_holds'). Laid BY PROGRAM, IN A SANDBOX (cutbox-door.mjs). By AI agents, Wed Nov 11 2026. No macro, syntax, notation, axiom, sorry.
-/
import Derived.Test.YtkmnnmgopnoffaaDoorRows
import GoSem.ClaimSeven
namespace Go.Proofs.YtkmnnmgopnoffaaDoor
namespace Rows

/-- THE TIED CARD OF 'laws.FnStep'. -/
def fnStepCard : Claim7 := { stood := { row := fnStepRow, standIns := [], harness := (true, "7e49d52c351e69813e01208164691eb4bdea88089cb65c3078ab86d2e9137e7f"), looks := true }, kinds := [], alts := [], laidByText := true, laidKinds := [.wider], laidTests := true, laidLooks := .later }
def FnStepCardSaid : Prop := Claim7.holds Tryd.pinned (.plain (OpenSpec.ofChange fnStepSpec)) fnStepCard

/-- THE TIED CARD OF 'laws.FnKey'. -/
def fnKeyCard : Claim7 := { stood := { row := fnKeyRow, standIns := [], harness := (true, "7e49d52c351e69813e01208164691eb4bdea88089cb65c3078ab86d2e9137e7f"), looks := true }, kinds := [], alts := [], laidByText := true, laidKinds := [.wider], laidTests := true, laidLooks := .later }
def FnKeyCardSaid : Prop := Claim7.holds Tryd.pinned (.plain (OpenSpec.ofChange fnKeySpec)) fnKeyCard

/-- THE TIED CARD OF 'laws.FnBugs'. -/
def fnBugsCard : Claim7 := { stood := { row := fnBugsRow, standIns := [], harness := (true, "7e49d52c351e69813e01208164691eb4bdea88089cb65c3078ab86d2e9137e7f"), looks := true }, kinds := [], alts := [], laidByText := true, laidKinds := [.data, .data, .data, .data, .data, .pinned], laidTests := true, laidLooks := .later }
def FnBugsCardSaid : Prop := Claim7.holds Tryd.pinned (.plain (OpenSpec.ofChange fnBugsSpec)) fnBugsCard

/-- THE TIED CARD OF 'laws.FnRun'. -/
def fnRunCard : Claim7 := { stood := { row := fnRunRow, standIns := [], harness := (true, "7e49d52c351e69813e01208164691eb4bdea88089cb65c3078ab86d2e9137e7f"), looks := true }, kinds := [], alts := [], laidByText := true, laidKinds := [.wider], laidTests := true, laidLooks := .later }
def FnRunCardSaid : Prop := Claim7.holds Tryd.pinned (.plain (OpenSpec.ofChange fnRunSpec)) fnRunCard

/-- THE TIED CARD OF 'laws.FnExactIsDone'. -/
def fnExactIsDoneCard : Claim7 := { stood := { row := fnExactIsDoneRow, standIns := [], harness := (true, "7e49d52c351e69813e01208164691eb4bdea88089cb65c3078ab86d2e9137e7f"), looks := true }, kinds := [], alts := [], laidByText := true, laidKinds := [.wider], laidTests := true, laidLooks := .later }
def FnExactIsDoneCardSaid : Prop := Claim7.holds Tryd.pinned (.plain (OpenSpec.ofChange fnExactIsDoneSpec)) fnExactIsDoneCard

/-- THE TIED CARD OF 'laws.FnExactStepVm'. -/
def fnExactStepVmCard : Claim7 := { stood := { row := fnExactStepVmRow, standIns := [], harness := (true, "7e49d52c351e69813e01208164691eb4bdea88089cb65c3078ab86d2e9137e7f"), looks := true }, kinds := [], alts := [], laidByText := true, laidKinds := [.wider], laidTests := true, laidLooks := .later }
def FnExactStepVmCardSaid : Prop := Claim7.holds Tryd.pinned (.plain (OpenSpec.ofChange fnExactStepVmSpec)) fnExactStepVmCard

/-- THE TIED CARD OF 'laws.FnExactBugText'. -/
def fnExactBugTextCard : Claim7 := { stood := { row := fnExactBugTextRow, standIns := [], harness := (true, "7e49d52c351e69813e01208164691eb4bdea88089cb65c3078ab86d2e9137e7f"), looks := true }, kinds := [], alts := [], laidByText := true, laidKinds := [.data, .data, .data, .data], laidTests := true, laidLooks := .later }
def FnExactBugTextCardSaid : Prop := Claim7.holds Tryd.pinned (.plain (OpenSpec.ofChange fnExactBugTextSpec)) fnExactBugTextCard

/-- THE TIED CARD OF 'laws.FnExactReadBug'. -/
def fnExactReadBugCard : Claim7 := { stood := { row := fnExactReadBugRow, standIns := [], harness := (true, "7e49d52c351e69813e01208164691eb4bdea88089cb65c3078ab86d2e9137e7f"), looks := true }, kinds := [], alts := [], laidByText := true, laidKinds := [.data, .data, .pinned], laidTests := true, laidLooks := .later }
def FnExactReadBugCardSaid : Prop := Claim7.holds Tryd.pinned (.plain (OpenSpec.ofChange fnExactReadBugSpec)) fnExactReadBugCard

/-- THE TIED CARD OF 'laws.FnExactIsWitness'. -/
def fnExactIsWitnessCard : Claim7 := { stood := { row := fnExactIsWitnessRow, standIns := [], harness := (true, "7e49d52c351e69813e01208164691eb4bdea88089cb65c3078ab86d2e9137e7f"), looks := true }, kinds := [], alts := [], laidByText := true, laidKinds := [.wider], laidTests := true, laidLooks := .later }
def FnExactIsWitnessCardSaid : Prop := Claim7.holds Tryd.pinned (.plain (OpenSpec.ofChange fnExactIsWitnessSpec)) fnExactIsWitnessCard

/-- THE SECOND FORM's CARD OF 'laws.FnStep'. -/
def fnStepUptoCard : Claim7 := { stood := { row := fnStepUptoRow, standIns := [], harness := (true, "7e49d52c351e69813e01208164691eb4bdea88089cb65c3078ab86d2e9137e7f"), looks := true }, kinds := [], alts := [], laidByText := true, laidKinds := [.wider], laidTests := true, laidLooks := .later }
def FnStepUptoCardSaid : Prop := Claim7.holds Tryd.pinned (.plain (OpenSpec.upto fnStepSpec)) fnStepUptoCard

/-- THE SECOND FORM's CARD OF 'laws.FnKey'. -/
def fnKeyUptoCard : Claim7 := { stood := { row := fnKeyUptoRow, standIns := [], harness := (true, "7e49d52c351e69813e01208164691eb4bdea88089cb65c3078ab86d2e9137e7f"), looks := true }, kinds := [], alts := [], laidByText := true, laidKinds := [.wider], laidTests := true, laidLooks := .later }
def FnKeyUptoCardSaid : Prop := Claim7.holds Tryd.pinned (.plain (OpenSpec.upto fnKeySpec)) fnKeyUptoCard

/-- THE SECOND FORM's CARD OF 'laws.FnBugs'. -/
def fnBugsUptoCard : Claim7 := { stood := { row := fnBugsUptoRow, standIns := [], harness := (true, "7e49d52c351e69813e01208164691eb4bdea88089cb65c3078ab86d2e9137e7f"), looks := true }, kinds := [], alts := [], laidByText := true, laidKinds := [.data, .data, .data, .data, .data, .pinned], laidTests := true, laidLooks := .later }
def FnBugsUptoCardSaid : Prop := Claim7.holds Tryd.pinned (.plain (OpenSpec.upto fnBugsSpec)) fnBugsUptoCard

/-- THE SECOND FORM's CARD OF 'laws.FnRun'. -/
def fnRunUptoCard : Claim7 := { stood := { row := fnRunUptoRow, standIns := [], harness := (true, "7e49d52c351e69813e01208164691eb4bdea88089cb65c3078ab86d2e9137e7f"), looks := true }, kinds := [], alts := [], laidByText := true, laidKinds := [.wider], laidTests := true, laidLooks := .later }
def FnRunUptoCardSaid : Prop := Claim7.holds Tryd.pinned (.plain (OpenSpec.upto fnRunSpec)) fnRunUptoCard

/-- THE SECOND FORM's CARD OF 'laws.FnExactIsDone'. -/
def fnExactIsDoneUptoCard : Claim7 := { stood := { row := fnExactIsDoneUptoRow, standIns := [], harness := (true, "7e49d52c351e69813e01208164691eb4bdea88089cb65c3078ab86d2e9137e7f"), looks := true }, kinds := [], alts := [], laidByText := true, laidKinds := [.wider], laidTests := true, laidLooks := .later }
def FnExactIsDoneUptoCardSaid : Prop := Claim7.holds Tryd.pinned (.plain (OpenSpec.upto fnExactIsDoneSpec)) fnExactIsDoneUptoCard

/-- THE SECOND FORM's CARD OF 'laws.FnExactStepVm'. -/
def fnExactStepVmUptoCard : Claim7 := { stood := { row := fnExactStepVmUptoRow, standIns := [], harness := (true, "7e49d52c351e69813e01208164691eb4bdea88089cb65c3078ab86d2e9137e7f"), looks := true }, kinds := [], alts := [], laidByText := true, laidKinds := [.wider], laidTests := true, laidLooks := .later }
def FnExactStepVmUptoCardSaid : Prop := Claim7.holds Tryd.pinned (.plain (OpenSpec.upto fnExactStepVmSpec)) fnExactStepVmUptoCard

/-- THE SECOND FORM's CARD OF 'laws.FnExactBugText'. -/
def fnExactBugTextUptoCard : Claim7 := { stood := { row := fnExactBugTextUptoRow, standIns := [], harness := (true, "7e49d52c351e69813e01208164691eb4bdea88089cb65c3078ab86d2e9137e7f"), looks := true }, kinds := [], alts := [], laidByText := true, laidKinds := [.data, .data, .data, .data], laidTests := true, laidLooks := .later }
def FnExactBugTextUptoCardSaid : Prop := Claim7.holds Tryd.pinned (.plain (OpenSpec.upto fnExactBugTextSpec)) fnExactBugTextUptoCard

/-- THE SECOND FORM's CARD OF 'laws.FnExactReadBug'. -/
def fnExactReadBugUptoCard : Claim7 := { stood := { row := fnExactReadBugUptoRow, standIns := [], harness := (true, "7e49d52c351e69813e01208164691eb4bdea88089cb65c3078ab86d2e9137e7f"), looks := true }, kinds := [], alts := [], laidByText := true, laidKinds := [.data, .data, .pinned], laidTests := true, laidLooks := .later }
def FnExactReadBugUptoCardSaid : Prop := Claim7.holds Tryd.pinned (.plain (OpenSpec.upto fnExactReadBugSpec)) fnExactReadBugUptoCard

/-- THE SECOND FORM's CARD OF 'laws.FnExactIsWitness'. -/
def fnExactIsWitnessUptoCard : Claim7 := { stood := { row := fnExactIsWitnessUptoRow, standIns := [], harness := (true, "7e49d52c351e69813e01208164691eb4bdea88089cb65c3078ab86d2e9137e7f"), looks := true }, kinds := [], alts := [], laidByText := true, laidKinds := [.wider], laidTests := true, laidLooks := .later }
def FnExactIsWitnessUptoCardSaid : Prop := Claim7.holds Tryd.pinned (.plain (OpenSpec.upto fnExactIsWitnessSpec)) fnExactIsWitnessUptoCard
end Rows
end Go.Proofs.YtkmnnmgopnoffaaDoor
