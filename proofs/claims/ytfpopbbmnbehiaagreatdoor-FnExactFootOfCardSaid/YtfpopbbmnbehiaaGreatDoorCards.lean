/-
  DERIVED. GIVEN WITH THE SEED: THE CARDS: each row of YtfpopbbmnbehiaaGreatDoorRows.lean that lists a variable, with what it lists TIED to the program's text (the seventh form; the later family's looks); each row that meets fmt, with fmt's text TOLD by the authors' own Lean function (tested against real Go, not proved from fmt's source: count such statements apart). THE CARD IS WHAT COUNTS. Prove the row's statement (the work); the ties are given (YtfpopbbmnbehiaaGreatDoorTie.lean); close each card by the builder's one call (the guide's Derived/Test/ToyasCard.lean, 'card_holds'). Laid BY PROGRAM, IN A SANDBOX (cutbox-door.mjs). By AI agents, Wed Nov 11 2026. No macro, syntax, notation, axiom, sorry.
-/
import Derived.Test.YtfpopbbmnbehiaaGreatDoorRows
import GoSem.ClaimSeven
namespace Go.Proofs.YtfpopbbmnbehiaaGreatDoor
namespace Rows

/-- THE TIED CARD OF 'laws.FnAll'. -/
def fnAllCard : Claim7 := { stood := { row := fnAllRow, standIns := [], harness := (true, "c9f9e1ce087c3314a76d36bca809edb022c151c9f8573506a67a99ad6109c7bf"), looks := true }, kinds := [], alts := [], laidByText := true, laidKinds := [.wider], laidTests := true, laidLooks := .later }
def FnAllCardSaid : Prop := Claim7.holds Tryz.pinned (.plain (OpenSpec.ofChange fnAllSpec)) fnAllCard

/-- THE TIED CARD OF 'laws.FnWitness'. -/
def fnWitnessCard : Claim7 := { stood := { row := fnWitnessRow, standIns := [], harness := (true, "c9f9e1ce087c3314a76d36bca809edb022c151c9f8573506a67a99ad6109c7bf"), looks := true }, kinds := [], alts := [], laidByText := true, laidKinds := [.wider], laidTests := true, laidLooks := .later }
def FnWitnessCardSaid : Prop := Claim7.holds Tryz.pinned (.plain (OpenSpec.ofChange fnWitnessSpec)) fnWitnessCard

/-- THE TIED CARD OF 'laws.FnFoot'. -/
def fnFootCard : Claim7 := { stood := { row := fnFootRow, standIns := [], harness := (true, "c9f9e1ce087c3314a76d36bca809edb022c151c9f8573506a67a99ad6109c7bf"), looks := true }, kinds := [], alts := [], laidByText := true, laidKinds := [.wider], laidTests := true, laidLooks := .later }
def FnFootCardSaid : Prop := Claim7.holds Tryz.pinned (.plain (OpenSpec.ofChange fnFootSpec)) fnFootCard

/-- THE TIED CARD OF 'laws.FnExactAllBugs'. -/
def fnExactAllBugsCard : Claim7 := { stood := { row := fnExactAllBugsRow, standIns := [], harness := (true, "c9f9e1ce087c3314a76d36bca809edb022c151c9f8573506a67a99ad6109c7bf"), looks := true }, kinds := [], alts := [], laidByText := true, laidKinds := [.wider], laidTests := true, laidLooks := .later }
def FnExactAllBugsCardSaid : Prop := Claim7.holds Tryz.pinned (.plain (OpenSpec.ofChange fnExactAllBugsSpec)) fnExactAllBugsCard

/-- THE TIED CARD OF 'laws.FnExactFootOf'. -/
def fnExactFootOfCard : Claim7 := { stood := { row := fnExactFootOfRow, standIns := [], harness := (true, "c9f9e1ce087c3314a76d36bca809edb022c151c9f8573506a67a99ad6109c7bf"), looks := true }, kinds := [], alts := [], laidByText := true, laidKinds := [.wider], laidTests := true, laidLooks := .later }
def FnExactFootOfCardSaid : Prop := Claim7.holds Tryz.pinned (.plain (OpenSpec.ofChange fnExactFootOfSpec)) fnExactFootOfCard

/-- THE SECOND FORM's CARD OF 'laws.FnAll'. -/
def fnAllUptoCard : Claim7 := { stood := { row := fnAllUptoRow, standIns := [], harness := (true, "c9f9e1ce087c3314a76d36bca809edb022c151c9f8573506a67a99ad6109c7bf"), looks := true }, kinds := [], alts := [], laidByText := true, laidKinds := [.wider], laidTests := true, laidLooks := .later }
def FnAllUptoCardSaid : Prop := Claim7.holds Tryz.pinned (.plain (OpenSpec.upto fnAllSpec)) fnAllUptoCard

/-- THE SECOND FORM's CARD OF 'laws.FnWitness'. -/
def fnWitnessUptoCard : Claim7 := { stood := { row := fnWitnessUptoRow, standIns := [], harness := (true, "c9f9e1ce087c3314a76d36bca809edb022c151c9f8573506a67a99ad6109c7bf"), looks := true }, kinds := [], alts := [], laidByText := true, laidKinds := [.wider], laidTests := true, laidLooks := .later }
def FnWitnessUptoCardSaid : Prop := Claim7.holds Tryz.pinned (.plain (OpenSpec.upto fnWitnessSpec)) fnWitnessUptoCard

/-- THE SECOND FORM's CARD OF 'laws.FnFoot'. -/
def fnFootUptoCard : Claim7 := { stood := { row := fnFootUptoRow, standIns := [], harness := (true, "c9f9e1ce087c3314a76d36bca809edb022c151c9f8573506a67a99ad6109c7bf"), looks := true }, kinds := [], alts := [], laidByText := true, laidKinds := [.wider], laidTests := true, laidLooks := .later }
def FnFootUptoCardSaid : Prop := Claim7.holds Tryz.pinned (.plain (OpenSpec.upto fnFootSpec)) fnFootUptoCard

/-- THE SECOND FORM's CARD OF 'laws.FnExactAllBugs'. -/
def fnExactAllBugsUptoCard : Claim7 := { stood := { row := fnExactAllBugsUptoRow, standIns := [], harness := (true, "c9f9e1ce087c3314a76d36bca809edb022c151c9f8573506a67a99ad6109c7bf"), looks := true }, kinds := [], alts := [], laidByText := true, laidKinds := [.wider], laidTests := true, laidLooks := .later }
def FnExactAllBugsUptoCardSaid : Prop := Claim7.holds Tryz.pinned (.plain (OpenSpec.upto fnExactAllBugsSpec)) fnExactAllBugsUptoCard

/-- THE SECOND FORM's CARD OF 'laws.FnExactFootOf'. -/
def fnExactFootOfUptoCard : Claim7 := { stood := { row := fnExactFootOfUptoRow, standIns := [], harness := (true, "c9f9e1ce087c3314a76d36bca809edb022c151c9f8573506a67a99ad6109c7bf"), looks := true }, kinds := [], alts := [], laidByText := true, laidKinds := [.wider], laidTests := true, laidLooks := .later }
def FnExactFootOfUptoCardSaid : Prop := Claim7.holds Tryz.pinned (.plain (OpenSpec.upto fnExactFootOfSpec)) fnExactFootOfUptoCard
end Rows
end Go.Proofs.YtfpopbbmnbehiaaGreatDoor
