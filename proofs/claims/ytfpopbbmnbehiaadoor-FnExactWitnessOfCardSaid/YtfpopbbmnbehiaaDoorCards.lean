/-
  DERIVED. GIVEN WITH THE SEED: THE CARDS: each row of YtfpopbbmnbehiaaDoorRows.lean that lists a variable, with what it lists TIED to the program's text (the seventh form; the later family's looks); each row that meets fmt, with fmt's text TOLD by the authors' own Lean function (tested against real Go, not proved from fmt's source: count such statements apart). THE CARD IS WHAT COUNTS. Prove the row's statement (the work); the ties are given (YtfpopbbmnbehiaaDoorTie.lean); close each card by the builder's one call (the guide's Derived/Test/ToyasCard.lean, 'card_holds'). Laid BY PROGRAM, IN A SANDBOX (cutbox-door.mjs). By AI agents, Wed Nov 11 2026. No macro, syntax, notation, axiom, sorry.
-/
import Derived.Test.YtfpopbbmnbehiaaDoorRows
import GoSem.ClaimSeven
namespace Go.Proofs.YtfpopbbmnbehiaaDoor
namespace Rows

/-- THE TIED CARD OF 'laws.FnExactAllStates'. -/
def fnExactAllStatesCard : Claim7 := { stood := { row := fnExactAllStatesRow, standIns := [], harness := (true, "6ff260c3fe0636fe710674d349a36652a34bde4ef81a4a2f6bb8637859c272c5"), looks := true }, kinds := [], alts := [], laidByText := true, laidKinds := [.wider], laidTests := true, laidLooks := .later }
def FnExactAllStatesCardSaid : Prop := Claim7.holds Tryd.pinned (.plain (OpenSpec.ofChange fnExactAllStatesSpec)) fnExactAllStatesCard

/-- THE TIED CARD OF 'laws.FnExactWitnessOf'. -/
def fnExactWitnessOfCard : Claim7 := { stood := { row := fnExactWitnessOfRow, standIns := [], harness := (true, "6ff260c3fe0636fe710674d349a36652a34bde4ef81a4a2f6bb8637859c272c5"), looks := true }, kinds := [], alts := [], laidByText := true, laidKinds := [.wider], laidTests := true, laidLooks := .later }
def FnExactWitnessOfCardSaid : Prop := Claim7.holds Tryd.pinned (.plain (OpenSpec.ofChange fnExactWitnessOfSpec)) fnExactWitnessOfCard

/-- THE TIED CARD OF 'laws.FnExactCountRuns'. -/
def fnExactCountRunsCard : Claim7 := { stood := { row := fnExactCountRunsRow, standIns := [], harness := (true, "6ff260c3fe0636fe710674d349a36652a34bde4ef81a4a2f6bb8637859c272c5"), looks := true }, kinds := [], alts := [], laidByText := true, laidKinds := [.wider], laidTests := true, laidLooks := .later }
def FnExactCountRunsCardSaid : Prop := Claim7.holds Tryd.pinned (.plain (OpenSpec.ofChange fnExactCountRunsSpec)) fnExactCountRunsCard

/-- THE TIED CARD OF 'laws.FnExactIsReached'. -/
def fnExactIsReachedCard : Claim7 := { stood := { row := fnExactIsReachedRow, standIns := [], harness := (true, "6ff260c3fe0636fe710674d349a36652a34bde4ef81a4a2f6bb8637859c272c5"), looks := true }, kinds := [], alts := [], laidByText := true, laidKinds := [.wider], laidTests := true, laidLooks := .later }
def FnExactIsReachedCardSaid : Prop := Claim7.holds Tryd.pinned (.plain (OpenSpec.ofChange fnExactIsReachedSpec)) fnExactIsReachedCard

/-- THE SECOND FORM's CARD OF 'laws.FnExactAllStates'. -/
def fnExactAllStatesUptoCard : Claim7 := { stood := { row := fnExactAllStatesUptoRow, standIns := [], harness := (true, "6ff260c3fe0636fe710674d349a36652a34bde4ef81a4a2f6bb8637859c272c5"), looks := true }, kinds := [], alts := [], laidByText := true, laidKinds := [.wider], laidTests := true, laidLooks := .later }
def FnExactAllStatesUptoCardSaid : Prop := Claim7.holds Tryd.pinned (.plain (OpenSpec.upto fnExactAllStatesSpec)) fnExactAllStatesUptoCard

/-- THE SECOND FORM's CARD OF 'laws.FnExactWitnessOf'. -/
def fnExactWitnessOfUptoCard : Claim7 := { stood := { row := fnExactWitnessOfUptoRow, standIns := [], harness := (true, "6ff260c3fe0636fe710674d349a36652a34bde4ef81a4a2f6bb8637859c272c5"), looks := true }, kinds := [], alts := [], laidByText := true, laidKinds := [.wider], laidTests := true, laidLooks := .later }
def FnExactWitnessOfUptoCardSaid : Prop := Claim7.holds Tryd.pinned (.plain (OpenSpec.upto fnExactWitnessOfSpec)) fnExactWitnessOfUptoCard

/-- THE SECOND FORM's CARD OF 'laws.FnExactCountRuns'. -/
def fnExactCountRunsUptoCard : Claim7 := { stood := { row := fnExactCountRunsUptoRow, standIns := [], harness := (true, "6ff260c3fe0636fe710674d349a36652a34bde4ef81a4a2f6bb8637859c272c5"), looks := true }, kinds := [], alts := [], laidByText := true, laidKinds := [.wider], laidTests := true, laidLooks := .later }
def FnExactCountRunsUptoCardSaid : Prop := Claim7.holds Tryd.pinned (.plain (OpenSpec.upto fnExactCountRunsSpec)) fnExactCountRunsUptoCard

/-- THE SECOND FORM's CARD OF 'laws.FnExactIsReached'. -/
def fnExactIsReachedUptoCard : Claim7 := { stood := { row := fnExactIsReachedUptoRow, standIns := [], harness := (true, "6ff260c3fe0636fe710674d349a36652a34bde4ef81a4a2f6bb8637859c272c5"), looks := true }, kinds := [], alts := [], laidByText := true, laidKinds := [.wider], laidTests := true, laidLooks := .later }
def FnExactIsReachedUptoCardSaid : Prop := Claim7.holds Tryd.pinned (.plain (OpenSpec.upto fnExactIsReachedSpec)) fnExactIsReachedUptoCard
end Rows
end Go.Proofs.YtfpopbbmnbehiaaDoor
