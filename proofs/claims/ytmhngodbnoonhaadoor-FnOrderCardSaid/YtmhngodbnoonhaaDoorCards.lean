/-
  DERIVED. GIVEN WITH THE SEED: THE CARDS: each row of YtmhngodbnoonhaaDoorRows.lean that lists a variable, with what it lists TIED to the program's text (the seventh form; the later family's looks); each row that meets fmt, with fmt's text TOLD by the authors' own Lean function (tested against real Go, not proved from fmt's source: count such statements apart). THE CARD IS WHAT COUNTS. Prove the row's statement (the work); the ties are given (YtmhngodbnoonhaaDoorTie.lean); close each card by the builder's one call (the guide's Derived/Test/ToyasCard.lean, 'card_holds'). Laid BY PROGRAM, IN A SANDBOX (cutbox-door.mjs). By AI agents, Wed Nov 11 2026. No macro, syntax, notation, axiom, sorry.
-/
import Derived.Test.YtmhngodbnoonhaaDoorRows
import GoSem.ClaimSeven
namespace Go.Proofs.YtmhngodbnoonhaaDoor
namespace Rows

/-- THE TIED CARD OF 'laws.FnRun'. -/
def fnRunCard : Claim7 := { stood := { row := fnRunRow, standIns := [], harness := (true, "a0fbc7f7b432d0d0348eea11d9fd88cced2cda95cd9bb03ea7163b7dee81b0be"), looks := true }, kinds := [], alts := [], laidByText := true, laidKinds := [.wider], laidTests := true, laidLooks := .later }
def FnRunCardSaid : Prop := Claim7.holds Tryd.pinned (.plain (OpenSpec.ofChange fnRunSpec)) fnRunCard

/-- THE TIED CARD OF 'laws.FnOrder'. -/
def fnOrderCard : Claim7 := { stood := { row := fnOrderRow, standIns := [], harness := (true, "a0fbc7f7b432d0d0348eea11d9fd88cced2cda95cd9bb03ea7163b7dee81b0be"), looks := true }, kinds := [], alts := [], laidByText := true, laidKinds := [.wider], laidTests := true, laidLooks := .later }
def FnOrderCardSaid : Prop := Claim7.holds Tryd.pinned (.plain (OpenSpec.ofChange fnOrderSpec)) fnOrderCard

/-- THE TIED CARD OF 'laws.FnExactIsWitness'. -/
def fnExactIsWitnessCard : Claim7 := { stood := { row := fnExactIsWitnessRow, standIns := [], harness := (true, "a0fbc7f7b432d0d0348eea11d9fd88cced2cda95cd9bb03ea7163b7dee81b0be"), looks := true }, kinds := [], alts := [], laidByText := true, laidKinds := [.wider], laidTests := true, laidLooks := .later }
def FnExactIsWitnessCardSaid : Prop := Claim7.holds Tryd.pinned (.plain (OpenSpec.ofChange fnExactIsWitnessSpec)) fnExactIsWitnessCard

/-- THE TIED CARD OF 'laws.FnExactEventsOf'. -/
def fnExactEventsOfCard : Claim7 := { stood := { row := fnExactEventsOfRow, standIns := [], harness := (true, "a0fbc7f7b432d0d0348eea11d9fd88cced2cda95cd9bb03ea7163b7dee81b0be"), looks := true }, kinds := [], alts := [], laidByText := true, laidKinds := [.wider], laidTests := true, laidLooks := .later }
def FnExactEventsOfCardSaid : Prop := Claim7.holds Tryd.pinned (.plain (OpenSpec.ofChange fnExactEventsOfSpec)) fnExactEventsOfCard

/-- THE TIED CARD OF 'laws.FnExactOrderOf'. -/
def fnExactOrderOfCard : Claim7 := { stood := { row := fnExactOrderOfRow, standIns := [], harness := (true, "a0fbc7f7b432d0d0348eea11d9fd88cced2cda95cd9bb03ea7163b7dee81b0be"), looks := true }, kinds := [], alts := [], laidByText := true, laidKinds := [.wider], laidTests := true, laidLooks := .later }
def FnExactOrderOfCardSaid : Prop := Claim7.holds Tryd.pinned (.plain (OpenSpec.ofChange fnExactOrderOfSpec)) fnExactOrderOfCard

/-- THE TIED CARD OF 'laws.FnExactRacesOf'. -/
def fnExactRacesOfCard : Claim7 := { stood := { row := fnExactRacesOfRow, standIns := [], harness := (true, "a0fbc7f7b432d0d0348eea11d9fd88cced2cda95cd9bb03ea7163b7dee81b0be"), looks := true }, kinds := [], alts := [], laidByText := true, laidKinds := [.wider], laidTests := true, laidLooks := .later }
def FnExactRacesOfCardSaid : Prop := Claim7.holds Tryd.pinned (.plain (OpenSpec.ofChange fnExactRacesOfSpec)) fnExactRacesOfCard

/-- THE TIED CARD OF 'laws.FnExactNormalOf'. -/
def fnExactNormalOfCard : Claim7 := { stood := { row := fnExactNormalOfRow, standIns := [], harness := (true, "a0fbc7f7b432d0d0348eea11d9fd88cced2cda95cd9bb03ea7163b7dee81b0be"), looks := true }, kinds := [], alts := [], laidByText := true, laidKinds := [.wider], laidTests := true, laidLooks := .later }
def FnExactNormalOfCardSaid : Prop := Claim7.holds Tryd.pinned (.plain (OpenSpec.ofChange fnExactNormalOfSpec)) fnExactNormalOfCard

/-- THE TIED CARD OF 'laws.FnExactSameClass'. -/
def fnExactSameClassCard : Claim7 := { stood := { row := fnExactSameClassRow, standIns := [], harness := (true, "a0fbc7f7b432d0d0348eea11d9fd88cced2cda95cd9bb03ea7163b7dee81b0be"), looks := true }, kinds := [], alts := [], laidByText := true, laidKinds := [.wider], laidTests := true, laidLooks := .later }
def FnExactSameClassCardSaid : Prop := Claim7.holds Tryd.pinned (.plain (OpenSpec.ofChange fnExactSameClassSpec)) fnExactSameClassCard

/-- THE SECOND FORM's CARD OF 'laws.FnRun'. -/
def fnRunUptoCard : Claim7 := { stood := { row := fnRunUptoRow, standIns := [], harness := (true, "a0fbc7f7b432d0d0348eea11d9fd88cced2cda95cd9bb03ea7163b7dee81b0be"), looks := true }, kinds := [], alts := [], laidByText := true, laidKinds := [.wider], laidTests := true, laidLooks := .later }
def FnRunUptoCardSaid : Prop := Claim7.holds Tryd.pinned (.plain (OpenSpec.upto fnRunSpec)) fnRunUptoCard

/-- THE SECOND FORM's CARD OF 'laws.FnOrder'. -/
def fnOrderUptoCard : Claim7 := { stood := { row := fnOrderUptoRow, standIns := [], harness := (true, "a0fbc7f7b432d0d0348eea11d9fd88cced2cda95cd9bb03ea7163b7dee81b0be"), looks := true }, kinds := [], alts := [], laidByText := true, laidKinds := [.wider], laidTests := true, laidLooks := .later }
def FnOrderUptoCardSaid : Prop := Claim7.holds Tryd.pinned (.plain (OpenSpec.upto fnOrderSpec)) fnOrderUptoCard

/-- THE SECOND FORM's CARD OF 'laws.FnExactIsWitness'. -/
def fnExactIsWitnessUptoCard : Claim7 := { stood := { row := fnExactIsWitnessUptoRow, standIns := [], harness := (true, "a0fbc7f7b432d0d0348eea11d9fd88cced2cda95cd9bb03ea7163b7dee81b0be"), looks := true }, kinds := [], alts := [], laidByText := true, laidKinds := [.wider], laidTests := true, laidLooks := .later }
def FnExactIsWitnessUptoCardSaid : Prop := Claim7.holds Tryd.pinned (.plain (OpenSpec.upto fnExactIsWitnessSpec)) fnExactIsWitnessUptoCard

/-- THE SECOND FORM's CARD OF 'laws.FnExactEventsOf'. -/
def fnExactEventsOfUptoCard : Claim7 := { stood := { row := fnExactEventsOfUptoRow, standIns := [], harness := (true, "a0fbc7f7b432d0d0348eea11d9fd88cced2cda95cd9bb03ea7163b7dee81b0be"), looks := true }, kinds := [], alts := [], laidByText := true, laidKinds := [.wider], laidTests := true, laidLooks := .later }
def FnExactEventsOfUptoCardSaid : Prop := Claim7.holds Tryd.pinned (.plain (OpenSpec.upto fnExactEventsOfSpec)) fnExactEventsOfUptoCard

/-- THE SECOND FORM's CARD OF 'laws.FnExactOrderOf'. -/
def fnExactOrderOfUptoCard : Claim7 := { stood := { row := fnExactOrderOfUptoRow, standIns := [], harness := (true, "a0fbc7f7b432d0d0348eea11d9fd88cced2cda95cd9bb03ea7163b7dee81b0be"), looks := true }, kinds := [], alts := [], laidByText := true, laidKinds := [.wider], laidTests := true, laidLooks := .later }
def FnExactOrderOfUptoCardSaid : Prop := Claim7.holds Tryd.pinned (.plain (OpenSpec.upto fnExactOrderOfSpec)) fnExactOrderOfUptoCard

/-- THE SECOND FORM's CARD OF 'laws.FnExactRacesOf'. -/
def fnExactRacesOfUptoCard : Claim7 := { stood := { row := fnExactRacesOfUptoRow, standIns := [], harness := (true, "a0fbc7f7b432d0d0348eea11d9fd88cced2cda95cd9bb03ea7163b7dee81b0be"), looks := true }, kinds := [], alts := [], laidByText := true, laidKinds := [.wider], laidTests := true, laidLooks := .later }
def FnExactRacesOfUptoCardSaid : Prop := Claim7.holds Tryd.pinned (.plain (OpenSpec.upto fnExactRacesOfSpec)) fnExactRacesOfUptoCard

/-- THE SECOND FORM's CARD OF 'laws.FnExactNormalOf'. -/
def fnExactNormalOfUptoCard : Claim7 := { stood := { row := fnExactNormalOfUptoRow, standIns := [], harness := (true, "a0fbc7f7b432d0d0348eea11d9fd88cced2cda95cd9bb03ea7163b7dee81b0be"), looks := true }, kinds := [], alts := [], laidByText := true, laidKinds := [.wider], laidTests := true, laidLooks := .later }
def FnExactNormalOfUptoCardSaid : Prop := Claim7.holds Tryd.pinned (.plain (OpenSpec.upto fnExactNormalOfSpec)) fnExactNormalOfUptoCard

/-- THE SECOND FORM's CARD OF 'laws.FnExactSameClass'. -/
def fnExactSameClassUptoCard : Claim7 := { stood := { row := fnExactSameClassUptoRow, standIns := [], harness := (true, "a0fbc7f7b432d0d0348eea11d9fd88cced2cda95cd9bb03ea7163b7dee81b0be"), looks := true }, kinds := [], alts := [], laidByText := true, laidKinds := [.wider], laidTests := true, laidLooks := .later }
def FnExactSameClassUptoCardSaid : Prop := Claim7.holds Tryd.pinned (.plain (OpenSpec.upto fnExactSameClassSpec)) fnExactSameClassUptoCard
end Rows
end Go.Proofs.YtmhngodbnoonhaaDoor
