/-
  DERIVED. GIVEN WITH THE SEED: THE CARDS: each row of YtdojjmkpelgcaaaDoorRows.lean that lists a variable, with what it lists TIED to the program's text (the seventh form; the later family's looks); each row that meets fmt, with fmt's text TOLD by the authors' own Lean function (tested against real Go, not proved from fmt's source: count such statements apart). THE CARD IS WHAT COUNTS. Prove the row's statement (the work); the ties are given (YtdojjmkpelgcaaaDoorTie.lean); close each card by the builder's one call (the guide's Derived/Test/ToyasCard.lean, 'card_holds'). Laid BY PROGRAM, IN A SANDBOX (cutbox-door.mjs). By AI agents, Wed Nov 11 2026. No macro, syntax, notation, axiom, sorry.
-/
import Derived.Test.YtdojjmkpelgcaaaDoorRows
import GoSem.ClaimSeven
namespace Go.Proofs.YtdojjmkpelgcaaaDoor
namespace Rows

/-- THE TIED CARD OF 'laws.FnNext'. -/
def fnNextCard : Claim7 := { stood := { row := fnNextRow, standIns := [], harness := (true, "8804be1bfc51928644b9cff2352f40ea19b983334ae0d437d1ed1f16e7cb2535"), looks := true }, kinds := [], alts := [], laidByText := true, laidKinds := [.wider], laidTests := true, laidLooks := .later }
def FnNextCardSaid : Prop := Claim7.holds Tryd.pinned (.plain (OpenSpec.ofChange fnNextSpec)) fnNextCard

/-- THE TIED CARD OF 'laws.FnExactNormalOf'. -/
def fnExactNormalOfCard : Claim7 := { stood := { row := fnExactNormalOfRow, standIns := [], harness := (true, "8804be1bfc51928644b9cff2352f40ea19b983334ae0d437d1ed1f16e7cb2535"), looks := true }, kinds := [], alts := [], laidByText := true, laidKinds := [.wider], laidTests := true, laidLooks := .later }
def FnExactNormalOfCardSaid : Prop := Claim7.holds Tryd.pinned (.plain (OpenSpec.ofChange fnExactNormalOfSpec)) fnExactNormalOfCard

/-- THE TIED CARD OF 'laws.FnExactSameClass'. -/
def fnExactSameClassCard : Claim7 := { stood := { row := fnExactSameClassRow, standIns := [], harness := (true, "8804be1bfc51928644b9cff2352f40ea19b983334ae0d437d1ed1f16e7cb2535"), looks := true }, kinds := [], alts := [], laidByText := true, laidKinds := [.wider], laidTests := true, laidLooks := .later }
def FnExactSameClassCardSaid : Prop := Claim7.holds Tryd.pinned (.plain (OpenSpec.ofChange fnExactSameClassSpec)) fnExactSameClassCard

/-- THE TIED CARD OF 'laws.FnExactNextEvent'. -/
def fnExactNextEventCard : Claim7 := { stood := { row := fnExactNextEventRow, standIns := [], harness := (true, "8804be1bfc51928644b9cff2352f40ea19b983334ae0d437d1ed1f16e7cb2535"), looks := true }, kinds := [], alts := [], laidByText := true, laidKinds := [.wider], laidTests := true, laidLooks := .later }
def FnExactNextEventCardSaid : Prop := Claim7.holds Tryd.pinned (.plain (OpenSpec.ofChange fnExactNextEventSpec)) fnExactNextEventCard

/-- THE TIED CARD OF 'laws.FnExactStillSleeps'. -/
def fnExactStillSleepsCard : Claim7 := { stood := { row := fnExactStillSleepsRow, standIns := [], harness := (true, "8804be1bfc51928644b9cff2352f40ea19b983334ae0d437d1ed1f16e7cb2535"), looks := true }, kinds := [], alts := [], laidByText := true, laidKinds := [.wider], laidTests := true, laidLooks := .later }
def FnExactStillSleepsCardSaid : Prop := Claim7.holds Tryd.pinned (.plain (OpenSpec.ofChange fnExactStillSleepsSpec)) fnExactStillSleepsCard

/-- THE TIED CARD OF 'laws.FnExactClassesOf'. -/
def fnExactClassesOfCard : Claim7 := { stood := { row := fnExactClassesOfRow, standIns := [], harness := (true, "8804be1bfc51928644b9cff2352f40ea19b983334ae0d437d1ed1f16e7cb2535"), looks := true }, kinds := [], alts := [], laidByText := true, laidKinds := [.wider], laidTests := true, laidLooks := .later }
def FnExactClassesOfCardSaid : Prop := Claim7.holds Tryd.pinned (.plain (OpenSpec.ofChange fnExactClassesOfSpec)) fnExactClassesOfCard

/-- THE SECOND FORM's CARD OF 'laws.FnNext'. -/
def fnNextUptoCard : Claim7 := { stood := { row := fnNextUptoRow, standIns := [], harness := (true, "8804be1bfc51928644b9cff2352f40ea19b983334ae0d437d1ed1f16e7cb2535"), looks := true }, kinds := [], alts := [], laidByText := true, laidKinds := [.wider], laidTests := true, laidLooks := .later }
def FnNextUptoCardSaid : Prop := Claim7.holds Tryd.pinned (.plain (OpenSpec.upto fnNextSpec)) fnNextUptoCard

/-- THE SECOND FORM's CARD OF 'laws.FnExactNormalOf'. -/
def fnExactNormalOfUptoCard : Claim7 := { stood := { row := fnExactNormalOfUptoRow, standIns := [], harness := (true, "8804be1bfc51928644b9cff2352f40ea19b983334ae0d437d1ed1f16e7cb2535"), looks := true }, kinds := [], alts := [], laidByText := true, laidKinds := [.wider], laidTests := true, laidLooks := .later }
def FnExactNormalOfUptoCardSaid : Prop := Claim7.holds Tryd.pinned (.plain (OpenSpec.upto fnExactNormalOfSpec)) fnExactNormalOfUptoCard

/-- THE SECOND FORM's CARD OF 'laws.FnExactSameClass'. -/
def fnExactSameClassUptoCard : Claim7 := { stood := { row := fnExactSameClassUptoRow, standIns := [], harness := (true, "8804be1bfc51928644b9cff2352f40ea19b983334ae0d437d1ed1f16e7cb2535"), looks := true }, kinds := [], alts := [], laidByText := true, laidKinds := [.wider], laidTests := true, laidLooks := .later }
def FnExactSameClassUptoCardSaid : Prop := Claim7.holds Tryd.pinned (.plain (OpenSpec.upto fnExactSameClassSpec)) fnExactSameClassUptoCard

/-- THE SECOND FORM's CARD OF 'laws.FnExactNextEvent'. -/
def fnExactNextEventUptoCard : Claim7 := { stood := { row := fnExactNextEventUptoRow, standIns := [], harness := (true, "8804be1bfc51928644b9cff2352f40ea19b983334ae0d437d1ed1f16e7cb2535"), looks := true }, kinds := [], alts := [], laidByText := true, laidKinds := [.wider], laidTests := true, laidLooks := .later }
def FnExactNextEventUptoCardSaid : Prop := Claim7.holds Tryd.pinned (.plain (OpenSpec.upto fnExactNextEventSpec)) fnExactNextEventUptoCard

/-- THE SECOND FORM's CARD OF 'laws.FnExactStillSleeps'. -/
def fnExactStillSleepsUptoCard : Claim7 := { stood := { row := fnExactStillSleepsUptoRow, standIns := [], harness := (true, "8804be1bfc51928644b9cff2352f40ea19b983334ae0d437d1ed1f16e7cb2535"), looks := true }, kinds := [], alts := [], laidByText := true, laidKinds := [.wider], laidTests := true, laidLooks := .later }
def FnExactStillSleepsUptoCardSaid : Prop := Claim7.holds Tryd.pinned (.plain (OpenSpec.upto fnExactStillSleepsSpec)) fnExactStillSleepsUptoCard

/-- THE SECOND FORM's CARD OF 'laws.FnExactClassesOf'. -/
def fnExactClassesOfUptoCard : Claim7 := { stood := { row := fnExactClassesOfUptoRow, standIns := [], harness := (true, "8804be1bfc51928644b9cff2352f40ea19b983334ae0d437d1ed1f16e7cb2535"), looks := true }, kinds := [], alts := [], laidByText := true, laidKinds := [.wider], laidTests := true, laidLooks := .later }
def FnExactClassesOfUptoCardSaid : Prop := Claim7.holds Tryd.pinned (.plain (OpenSpec.upto fnExactClassesOfSpec)) fnExactClassesOfUptoCard
end Rows
end Go.Proofs.YtdojjmkpelgcaaaDoor
