/-
  DERIVED. GIVEN WITH THE SEED: THE CARDS: each row of YtojcgajjnmjjpaaGreatDoorRows.lean that lists a variable, with what it lists TIED to the program's text (the seventh form; the later family's looks); each row that meets fmt, with fmt's text TOLD by the authors' own Lean function (tested against real Go, not proved from fmt's source: count such statements apart). THE CARD IS WHAT COUNTS. Prove the row's statement (the work); the ties are given (YtojcgajjnmjjpaaGreatDoorTie.lean); close each card by the builder's one call (the guide's Derived/Test/ToyasCard.lean, 'card_holds'). Laid BY PROGRAM, IN A SANDBOX (cutbox-door.mjs). By AI agents, Wed Nov 11 2026. No macro, syntax, notation, axiom, sorry.
-/
import Derived.Test.YtojcgajjnmjjpaaGreatDoorRows
import GoSem.ClaimSeven
namespace Go.Proofs.YtojcgajjnmjjpaaGreatDoor
namespace Rows

/-- THE TIED CARD OF 'laws.FnClasses'. -/
def fnClassesCard : Claim7 := { stood := { row := fnClassesRow, standIns := [], harness := (true, "0f103dad0204a7dbdcdcdb3400bf615a9ff8f7a34bcb8edd983501338bcdd5fe"), looks := true }, kinds := [], alts := [], laidByText := true, laidKinds := [.wider], laidTests := true, laidLooks := .later }
def FnClassesCardSaid : Prop := Claim7.holds Tryz.pinned (.plain (OpenSpec.ofChange fnClassesSpec)) fnClassesCard

/-- THE TIED CARD OF 'laws.FnFoot'. -/
def fnFootCard : Claim7 := { stood := { row := fnFootRow, standIns := [], harness := (true, "0f103dad0204a7dbdcdcdb3400bf615a9ff8f7a34bcb8edd983501338bcdd5fe"), looks := true }, kinds := [], alts := [], laidByText := true, laidKinds := [.wider], laidTests := true, laidLooks := .later }
def FnFootCardSaid : Prop := Claim7.holds Tryz.pinned (.plain (OpenSpec.ofChange fnFootSpec)) fnFootCard

/-- THE TIED CARD OF 'laws.FnExactFootOf'. -/
def fnExactFootOfCard : Claim7 := { stood := { row := fnExactFootOfRow, standIns := [], harness := (true, "0f103dad0204a7dbdcdcdb3400bf615a9ff8f7a34bcb8edd983501338bcdd5fe"), looks := true }, kinds := [], alts := [], laidByText := true, laidKinds := [.wider], laidTests := true, laidLooks := .later }
def FnExactFootOfCardSaid : Prop := Claim7.holds Tryz.pinned (.plain (OpenSpec.ofChange fnExactFootOfSpec)) fnExactFootOfCard

/-- THE SECOND FORM's CARD OF 'laws.FnClasses'. -/
def fnClassesUptoCard : Claim7 := { stood := { row := fnClassesUptoRow, standIns := [], harness := (true, "0f103dad0204a7dbdcdcdb3400bf615a9ff8f7a34bcb8edd983501338bcdd5fe"), looks := true }, kinds := [], alts := [], laidByText := true, laidKinds := [.wider], laidTests := true, laidLooks := .later }
def FnClassesUptoCardSaid : Prop := Claim7.holds Tryz.pinned (.plain (OpenSpec.upto fnClassesSpec)) fnClassesUptoCard

/-- THE SECOND FORM's CARD OF 'laws.FnFoot'. -/
def fnFootUptoCard : Claim7 := { stood := { row := fnFootUptoRow, standIns := [], harness := (true, "0f103dad0204a7dbdcdcdb3400bf615a9ff8f7a34bcb8edd983501338bcdd5fe"), looks := true }, kinds := [], alts := [], laidByText := true, laidKinds := [.wider], laidTests := true, laidLooks := .later }
def FnFootUptoCardSaid : Prop := Claim7.holds Tryz.pinned (.plain (OpenSpec.upto fnFootSpec)) fnFootUptoCard

/-- THE SECOND FORM's CARD OF 'laws.FnExactFootOf'. -/
def fnExactFootOfUptoCard : Claim7 := { stood := { row := fnExactFootOfUptoRow, standIns := [], harness := (true, "0f103dad0204a7dbdcdcdb3400bf615a9ff8f7a34bcb8edd983501338bcdd5fe"), looks := true }, kinds := [], alts := [], laidByText := true, laidKinds := [.wider], laidTests := true, laidLooks := .later }
def FnExactFootOfUptoCardSaid : Prop := Claim7.holds Tryz.pinned (.plain (OpenSpec.upto fnExactFootOfSpec)) fnExactFootOfUptoCard
end Rows
end Go.Proofs.YtojcgajjnmjjpaaGreatDoor
