/-
  DERIVED. GIVEN WITH THE SEED: THE CARDS: each row of YtifoggpohlegmaaGreatDoorRows.lean that lists a variable, with what it lists TIED to the program's text (the seventh form; the later family's looks); each row that meets fmt, with fmt's text TOLD by the authors' own Lean function (tested against real Go, not proved from fmt's source: count such statements apart). THE CARD IS WHAT COUNTS. Prove the row's statement (the work); the ties are given (YtifoggpohlegmaaGreatDoorTie.lean); close each card by the builder's one call (the guide's Derived/Test/ToyasCard.lean, 'card_holds'). Laid BY PROGRAM, IN A SANDBOX (cutbox-door.mjs). By AI agents, Wed Nov 11 2026. No macro, syntax, notation, axiom, sorry.
-/
import Derived.Test.YtifoggpohlegmaaGreatDoorRows
import GoSem.ClaimSeven
namespace Go.Proofs.YtifoggpohlegmaaGreatDoor
namespace Rows

/-- THE TIED CARD OF 'laws.FnCommute'. -/
def fnCommuteCard : Claim7 := { stood := { row := fnCommuteRow, standIns := [], harness := (true, "075426abf9383437dd3b72b2ce27c24396a680608a29aa952612018519dbf987"), looks := true }, kinds := [], alts := [], laidByText := true, laidKinds := [.wider], laidTests := true, laidLooks := .later }
def FnCommuteCardSaid : Prop := Claim7.holds Tryz.pinned (.plain (OpenSpec.ofChange fnCommuteSpec)) fnCommuteCard

/-- THE TIED CARD OF 'laws.FnNormal'. -/
def fnNormalCard : Claim7 := { stood := { row := fnNormalRow, standIns := [], harness := (true, "075426abf9383437dd3b72b2ce27c24396a680608a29aa952612018519dbf987"), looks := true }, kinds := [], alts := [], laidByText := true, laidKinds := [.wider], laidTests := true, laidLooks := .later }
def FnNormalCardSaid : Prop := Claim7.holds Tryz.pinned (.plain (OpenSpec.ofChange fnNormalSpec)) fnNormalCard

/-- THE TIED CARD OF 'laws.FnAll'. -/
def fnAllCard : Claim7 := { stood := { row := fnAllRow, standIns := [], harness := (true, "075426abf9383437dd3b72b2ce27c24396a680608a29aa952612018519dbf987"), looks := true }, kinds := [], alts := [], laidByText := true, laidKinds := [.wider], laidTests := true, laidLooks := .later }
def FnAllCardSaid : Prop := Claim7.holds Tryz.pinned (.plain (OpenSpec.ofChange fnAllSpec)) fnAllCard

/-- THE TIED CARD OF 'laws.FnWitness'. -/
def fnWitnessCard : Claim7 := { stood := { row := fnWitnessRow, standIns := [], harness := (true, "075426abf9383437dd3b72b2ce27c24396a680608a29aa952612018519dbf987"), looks := true }, kinds := [], alts := [], laidByText := true, laidKinds := [.wider], laidTests := true, laidLooks := .later }
def FnWitnessCardSaid : Prop := Claim7.holds Tryz.pinned (.plain (OpenSpec.ofChange fnWitnessSpec)) fnWitnessCard

/-- THE TIED CARD OF 'laws.FnSleep'. -/
def fnSleepCard : Claim7 := { stood := { row := fnSleepRow, standIns := [], harness := (true, "075426abf9383437dd3b72b2ce27c24396a680608a29aa952612018519dbf987"), looks := true }, kinds := [], alts := [], laidByText := true, laidKinds := [.wider], laidTests := true, laidLooks := .later }
def FnSleepCardSaid : Prop := Claim7.holds Tryz.pinned (.plain (OpenSpec.ofChange fnSleepSpec)) fnSleepCard

/-- THE TIED CARD OF 'laws.FnClasses'. -/
def fnClassesCard : Claim7 := { stood := { row := fnClassesRow, standIns := [], harness := (true, "075426abf9383437dd3b72b2ce27c24396a680608a29aa952612018519dbf987"), looks := true }, kinds := [], alts := [], laidByText := true, laidKinds := [.wider], laidTests := true, laidLooks := .later }
def FnClassesCardSaid : Prop := Claim7.holds Tryz.pinned (.plain (OpenSpec.ofChange fnClassesSpec)) fnClassesCard

/-- THE TIED CARD OF 'laws.FnFoot'. -/
def fnFootCard : Claim7 := { stood := { row := fnFootRow, standIns := [], harness := (true, "075426abf9383437dd3b72b2ce27c24396a680608a29aa952612018519dbf987"), looks := true }, kinds := [], alts := [], laidByText := true, laidKinds := [.wider], laidTests := true, laidLooks := .later }
def FnFootCardSaid : Prop := Claim7.holds Tryz.pinned (.plain (OpenSpec.ofChange fnFootSpec)) fnFootCard

/-- THE SECOND FORM's CARD OF 'laws.FnCommute'. -/
def fnCommuteUptoCard : Claim7 := { stood := { row := fnCommuteUptoRow, standIns := [], harness := (true, "075426abf9383437dd3b72b2ce27c24396a680608a29aa952612018519dbf987"), looks := true }, kinds := [], alts := [], laidByText := true, laidKinds := [.wider], laidTests := true, laidLooks := .later }
def FnCommuteUptoCardSaid : Prop := Claim7.holds Tryz.pinned (.plain (OpenSpec.upto fnCommuteSpec)) fnCommuteUptoCard

/-- THE SECOND FORM's CARD OF 'laws.FnNormal'. -/
def fnNormalUptoCard : Claim7 := { stood := { row := fnNormalUptoRow, standIns := [], harness := (true, "075426abf9383437dd3b72b2ce27c24396a680608a29aa952612018519dbf987"), looks := true }, kinds := [], alts := [], laidByText := true, laidKinds := [.wider], laidTests := true, laidLooks := .later }
def FnNormalUptoCardSaid : Prop := Claim7.holds Tryz.pinned (.plain (OpenSpec.upto fnNormalSpec)) fnNormalUptoCard

/-- THE SECOND FORM's CARD OF 'laws.FnAll'. -/
def fnAllUptoCard : Claim7 := { stood := { row := fnAllUptoRow, standIns := [], harness := (true, "075426abf9383437dd3b72b2ce27c24396a680608a29aa952612018519dbf987"), looks := true }, kinds := [], alts := [], laidByText := true, laidKinds := [.wider], laidTests := true, laidLooks := .later }
def FnAllUptoCardSaid : Prop := Claim7.holds Tryz.pinned (.plain (OpenSpec.upto fnAllSpec)) fnAllUptoCard

/-- THE SECOND FORM's CARD OF 'laws.FnWitness'. -/
def fnWitnessUptoCard : Claim7 := { stood := { row := fnWitnessUptoRow, standIns := [], harness := (true, "075426abf9383437dd3b72b2ce27c24396a680608a29aa952612018519dbf987"), looks := true }, kinds := [], alts := [], laidByText := true, laidKinds := [.wider], laidTests := true, laidLooks := .later }
def FnWitnessUptoCardSaid : Prop := Claim7.holds Tryz.pinned (.plain (OpenSpec.upto fnWitnessSpec)) fnWitnessUptoCard

/-- THE SECOND FORM's CARD OF 'laws.FnSleep'. -/
def fnSleepUptoCard : Claim7 := { stood := { row := fnSleepUptoRow, standIns := [], harness := (true, "075426abf9383437dd3b72b2ce27c24396a680608a29aa952612018519dbf987"), looks := true }, kinds := [], alts := [], laidByText := true, laidKinds := [.wider], laidTests := true, laidLooks := .later }
def FnSleepUptoCardSaid : Prop := Claim7.holds Tryz.pinned (.plain (OpenSpec.upto fnSleepSpec)) fnSleepUptoCard

/-- THE SECOND FORM's CARD OF 'laws.FnClasses'. -/
def fnClassesUptoCard : Claim7 := { stood := { row := fnClassesUptoRow, standIns := [], harness := (true, "075426abf9383437dd3b72b2ce27c24396a680608a29aa952612018519dbf987"), looks := true }, kinds := [], alts := [], laidByText := true, laidKinds := [.wider], laidTests := true, laidLooks := .later }
def FnClassesUptoCardSaid : Prop := Claim7.holds Tryz.pinned (.plain (OpenSpec.upto fnClassesSpec)) fnClassesUptoCard

/-- THE SECOND FORM's CARD OF 'laws.FnFoot'. -/
def fnFootUptoCard : Claim7 := { stood := { row := fnFootUptoRow, standIns := [], harness := (true, "075426abf9383437dd3b72b2ce27c24396a680608a29aa952612018519dbf987"), looks := true }, kinds := [], alts := [], laidByText := true, laidKinds := [.wider], laidTests := true, laidLooks := .later }
def FnFootUptoCardSaid : Prop := Claim7.holds Tryz.pinned (.plain (OpenSpec.upto fnFootSpec)) fnFootUptoCard
end Rows
end Go.Proofs.YtifoggpohlegmaaGreatDoor
