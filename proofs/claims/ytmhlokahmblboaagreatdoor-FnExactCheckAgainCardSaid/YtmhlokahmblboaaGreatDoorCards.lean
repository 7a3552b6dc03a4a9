/-
  DERIVED. GIVEN WITH THE SEED: THE CARDS: each row of YtmhlokahmblboaaGreatDoorRows.lean that lists a variable, with what it lists TIED to the program's text (the seventh form; the later family's looks); each row that meets fmt, with fmt's text TOLD by the authors' own Lean function (tested against real Go, not proved from fmt's source: count such statements apart). THE CARD IS WHAT COUNTS. Prove the row's statement (the work); the ties are given (YtmhlokahmblboaaGreatDoorTie.lean); close each card by the builder's one call (the guide's Derived/Test/ToyasCard.lean, 'card_holds'). Laid BY PROGRAM, IN A SANDBOX (cutbox-door.mjs). By AI agents, Wed Nov 11 2026. No macro, syntax, notation, axiom, sorry.
-/
import Derived.Test.YtmhlokahmblboaaGreatDoorRows
import GoSem.ClaimSeven
namespace Go.Proofs.YtmhlokahmblboaaGreatDoor
namespace Rows

/-- THE TIED CARD OF 'laws.FnClasses'. -/
def fnClassesCard : Claim7 := { stood := { row := fnClassesRow, standIns := [], harness := (true, "4e9c9765a13b3e8b2e3177d8225395e21eeb5d9bc22e10c5d02b39a061efe1ef"), looks := true }, kinds := [], alts := [], laidByText := true, laidKinds := [.wider], laidTests := true, laidLooks := .later }
def FnClassesCardSaid : Prop := Claim7.holds Tryz.pinned (.plain (OpenSpec.ofChange fnClassesSpec)) fnClassesCard

/-- THE TIED CARD OF 'laws.FnExactCheckAgain'. -/
def fnExactCheckAgainCard : Claim7 := { stood := { row := fnExactCheckAgainRow, standIns := [], harness := (true, "4e9c9765a13b3e8b2e3177d8225395e21eeb5d9bc22e10c5d02b39a061efe1ef"), looks := true }, kinds := [], alts := [], laidByText := true, laidKinds := [.wider], laidTests := true, laidLooks := .later }
def FnExactCheckAgainCardSaid : Prop := Claim7.holds Tryz.pinned (.plain (OpenSpec.ofChange fnExactCheckAgainSpec)) fnExactCheckAgainCard

/-- THE SECOND FORM's CARD OF 'laws.FnClasses'. -/
def fnClassesUptoCard : Claim7 := { stood := { row := fnClassesUptoRow, standIns := [], harness := (true, "4e9c9765a13b3e8b2e3177d8225395e21eeb5d9bc22e10c5d02b39a061efe1ef"), looks := true }, kinds := [], alts := [], laidByText := true, laidKinds := [.wider], laidTests := true, laidLooks := .later }
def FnClassesUptoCardSaid : Prop := Claim7.holds Tryz.pinned (.plain (OpenSpec.upto fnClassesSpec)) fnClassesUptoCard

/-- THE SECOND FORM's CARD OF 'laws.FnExactCheckAgain'. -/
def fnExactCheckAgainUptoCard : Claim7 := { stood := { row := fnExactCheckAgainUptoRow, standIns := [], harness := (true, "4e9c9765a13b3e8b2e3177d8225395e21eeb5d9bc22e10c5d02b39a061efe1ef"), looks := true }, kinds := [], alts := [], laidByText := true, laidKinds := [.wider], laidTests := true, laidLooks := .later }
def FnExactCheckAgainUptoCardSaid : Prop := Claim7.holds Tryz.pinned (.plain (OpenSpec.upto fnExactCheckAgainSpec)) fnExactCheckAgainUptoCard
end Rows
end Go.Proofs.YtmhlokahmblboaaGreatDoor
