/-
  DERIVED. GIVEN WITH THE SEED: THE CARDS: each row of YtjgffnlmjmibgaaDoorRows.lean that lists a variable, with what it lists TIED to the program's text (the seventh form; the later family's looks); each row that meets fmt, with fmt's text TOLD by the authors' own Lean function (tested against real Go, not proved from fmt's source: count such statements apart). THE CARD IS WHAT COUNTS. Prove the row's statement (the work); the ties are given (YtjgffnlmjmibgaaDoorTie.lean); close each card by the builder's one call (the guide's Derived/Test/ToyasCard.lean, 'card_holds'). Laid BY PROGRAM, IN A SANDBOX (cutbox-door.mjs). By AI agents, Wed Nov 11 2026. No macro, syntax, notation, axiom, sorry.
-/
import Derived.Test.YtjgffnlmjmibgaaDoorRows
import GoSem.ClaimSeven
namespace Go.Proofs.YtjgffnlmjmibgaaDoor
namespace Rows

/-- THE TIED CARD OF 'laws.FnRun'. -/
def fnRunCard : Claim7 := { stood := { row := fnRunRow, standIns := [], harness := (true, "c1b4f79f2de76f286816b8a4872f72f01670c2fc11d6e6cf5ce5f0adb49f5191"), looks := true }, kinds := [], alts := [], laidByText := true, laidKinds := [.wider], laidTests := true, laidLooks := .later }
def FnRunCardSaid : Prop := Claim7.holds Tryd.pinned (.plain (OpenSpec.ofChange fnRunSpec)) fnRunCard

/-- THE TIED CARD OF 'laws.FnExactIsWitness'. -/
def fnExactIsWitnessCard : Claim7 := { stood := { row := fnExactIsWitnessRow, standIns := [], harness := (true, "c1b4f79f2de76f286816b8a4872f72f01670c2fc11d6e6cf5ce5f0adb49f5191"), looks := true }, kinds := [], alts := [], laidByText := true, laidKinds := [.wider], laidTests := true, laidLooks := .later }
def FnExactIsWitnessCardSaid : Prop := Claim7.holds Tryd.pinned (.plain (OpenSpec.ofChange fnExactIsWitnessSpec)) fnExactIsWitnessCard

/-- THE TIED CARD OF 'laws.FnExactClassesOf'. -/
def fnExactClassesOfCard : Claim7 := { stood := { row := fnExactClassesOfRow, standIns := [], harness := (true, "c1b4f79f2de76f286816b8a4872f72f01670c2fc11d6e6cf5ce5f0adb49f5191"), looks := true }, kinds := [], alts := [], laidByText := true, laidKinds := [.wider], laidTests := true, laidLooks := .later }
def FnExactClassesOfCardSaid : Prop := Claim7.holds Tryd.pinned (.plain (OpenSpec.ofChange fnExactClassesOfSpec)) fnExactClassesOfCard

/-- THE SECOND FORM's CARD OF 'laws.FnRun'. -/
def fnRunUptoCard : Claim7 := { stood := { row := fnRunUptoRow, standIns := [], harness := (true, "c1b4f79f2de76f286816b8a4872f72f01670c2fc11d6e6cf5ce5f0adb49f5191"), looks := true }, kinds := [], alts := [], laidByText := true, laidKinds := [.wider], laidTests := true, laidLooks := .later }
def FnRunUptoCardSaid : Prop := Claim7.holds Tryd.pinned (.plain (OpenSpec.upto fnRunSpec)) fnRunUptoCard

/-- THE SECOND FORM's CARD OF 'laws.FnExactIsWitness'. -/
def fnExactIsWitnessUptoCard : Claim7 := { stood := { row := fnExactIsWitnessUptoRow, standIns := [], harness := (true, "c1b4f79f2de76f286816b8a4872f72f01670c2fc11d6e6cf5ce5f0adb49f5191"), looks := true }, kinds := [], alts := [], laidByText := true, laidKinds := [.wider], laidTests := true, laidLooks := .later }
def FnExactIsWitnessUptoCardSaid : Prop := Claim7.holds Tryd.pinned (.plain (OpenSpec.upto fnExactIsWitnessSpec)) fnExactIsWitnessUptoCard

/-- THE SECOND FORM's CARD OF 'laws.FnExactClassesOf'. -/
def fnExactClassesOfUptoCard : Claim7 := { stood := { row := fnExactClassesOfUptoRow, standIns := [], harness := (true, "c1b4f79f2de76f286816b8a4872f72f01670c2fc11d6e6cf5ce5f0adb49f5191"), looks := true }, kinds := [], alts := [], laidByText := true, laidKinds := [.wider], laidTests := true, laidLooks := .later }
def FnExactClassesOfUptoCardSaid : Prop := Claim7.holds Tryd.pinned (.plain (OpenSpec.upto fnExactClassesOfSpec)) fnExactClassesOfUptoCard
end Rows
end Go.Proofs.YtjgffnlmjmibgaaDoor
