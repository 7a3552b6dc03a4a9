/-
  DERIVED. GIVEN WITH THE SEED: THE CARDS: each row of YtcdpcfnlflpjnaaGreatDoorRows.lean that lists a variable, with what it lists TIED to the program's text (the seventh form; the later family's looks); each row that meets fmt, with fmt's text TOLD by the authors' own Lean function (tested against real Go, not proved from fmt's source: count such statements apart). THE CARD IS WHAT COUNTS. Prove the row's statement (the work); the ties are given (YtcdpcfnlflpjnaaGreatDoorTie.lean); close each card by the builder's one call (the guide's Derived/Test/ToyasCard.lean, 'card_holds'). Laid BY PROGRAM, IN A SANDBOX (cutbox-door.mjs). By AI agents, Wed Nov 11 2026. No macro, syntax, notation, axiom, sorry.
-/
import Derived.Test.YtcdpcfnlflpjnaaGreatDoorRows
import GoSem.ClaimSeven
namespace Go.Proofs.YtcdpcfnlflpjnaaGreatDoor
namespace Rows

/-- THE TIED CARD OF 'laws.FnAll'. -/
def fnAllCard : Claim7 := { stood := { row := fnAllRow, standIns := [], harness := (true, "9a728ef10c87aaf935632a8e14e08c80d40ea7f068f9bc4e304397509df19cc3"), looks := true }, kinds := [], alts := [], laidByText := true, laidKinds := [.wider], laidTests := true, laidLooks := .later }
def FnAllCardSaid : Prop := Claim7.holds Tryz.pinned (.plain (OpenSpec.ofChange fnAllSpec)) fnAllCard

/-- THE TIED CARD OF 'laws.FnWitness'. -/
def fnWitnessCard : Claim7 := { stood := { row := fnWitnessRow, standIns := [], harness := (true, "9a728ef10c87aaf935632a8e14e08c80d40ea7f068f9bc4e304397509df19cc3"), looks := true }, kinds := [], alts := [], laidByText := true, laidKinds := [.wider], laidTests := true, laidLooks := .later }
def FnWitnessCardSaid : Prop := Claim7.holds Tryz.pinned (.plain (OpenSpec.ofChange fnWitnessSpec)) fnWitnessCard

/-- THE TIED CARD OF 'laws.FnExactAllBugs'. -/
def fnExactAllBugsCard : Claim7 := { stood := { row := fnExactAllBugsRow, standIns := [], harness := (true, "9a728ef10c87aaf935632a8e14e08c80d40ea7f068f9bc4e304397509df19cc3"), looks := true }, kinds := [], alts := [], laidByText := true, laidKinds := [.wider], laidTests := true, laidLooks := .later }
def FnExactAllBugsCardSaid : Prop := Claim7.holds Tryz.pinned (.plain (OpenSpec.ofChange fnExactAllBugsSpec)) fnExactAllBugsCard

/-- THE SECOND FORM's CARD OF 'laws.FnAll'. -/
def fnAllUptoCard : Claim7 := { stood := { row := fnAllUptoRow, standIns := [], harness := (true, "9a728ef10c87aaf935632a8e14e08c80d40ea7f068f9bc4e304397509df19cc3"), looks := true }, kinds := [], alts := [], laidByText := true, laidKinds := [.wider], laidTests := true, laidLooks := .later }
def FnAllUptoCardSaid : Prop := Claim7.holds Tryz.pinned (.plain (OpenSpec.upto fnAllSpec)) fnAllUptoCard

/-- THE SECOND FORM's CARD OF 'laws.FnWitness'. -/
def fnWitnessUptoCard : Claim7 := { stood := { row := fnWitnessUptoRow, standIns := [], harness := (true, "9a728ef10c87aaf935632a8e14e08c80d40ea7f068f9bc4e304397509df19cc3"), looks := true }, kinds := [], alts := [], laidByText := true, laidKinds := [.wider], laidTests := true, laidLooks := .later }
def FnWitnessUptoCardSaid : Prop := Claim7.holds Tryz.pinned (.plain (OpenSpec.upto fnWitnessSpec)) fnWitnessUptoCard

/-- THE SECOND FORM's CARD OF 'laws.FnExactAllBugs'. -/
def fnExactAllBugsUptoCard : Claim7 := { stood := { row := fnExactAllBugsUptoRow, standIns := [], harness := (true, "9a728ef10c87aaf935632a8e14e08c80d40ea7f068f9bc4e304397509df19cc3"), looks := true }, kinds := [], alts := [], laidByText := true, laidKinds := [.wider], laidTests := true, laidLooks := .later }
def FnExactAllBugsUptoCardSaid : Prop := Claim7.holds Tryz.pinned (.plain (OpenSpec.upto fnExactAllBugsSpec)) fnExactAllBugsUptoCard
end Rows
end Go.Proofs.YtcdpcfnlflpjnaaGreatDoor
