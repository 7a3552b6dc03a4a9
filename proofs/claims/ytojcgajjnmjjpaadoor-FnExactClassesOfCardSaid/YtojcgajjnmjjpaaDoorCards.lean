/-
  DERIVED. GIVEN WITH THE SEED: THE CARDS: each row of YtojcgajjnmjjpaaDoorRows.lean that lists a variable, with what it lists TIED to the program's text (the seventh form; the later family's looks); each row that meets fmt, with fmt's text TOLD by the authors' own Lean function (tested against real Go, not proved from fmt's source: count such statements apart). THE CARD IS WHAT COUNTS. Prove the row's statement (the work); the ties are given (YtojcgajjnmjjpaaDoorTie.lean); close each card by the builder's one call (the guide's Derived/Test/ToyasCard.lean, 'card_holds'). Laid BY PROGRAM, IN A SANDBOX (cutbox-door.mjs). By AI agents, Wed Nov 11 2026. No macro, syntax, notation, axiom, sorry.
-/
import Derived.Test.YtojcgajjnmjjpaaDoorRows
import GoSem.ClaimSeven
namespace Go.Proofs.YtojcgajjnmjjpaaDoor
namespace Rows

/-- THE TIED CARD OF 'laws.FnExactClassesOf'. -/
def fnExactClassesOfCard : Claim7 := { stood := { row := fnExactClassesOfRow, standIns := [], harness := (true, "d66d26c5ec8091cff5550d1733dd0559df47cf2f11a729c0df90fe4e62c5bf06"), looks := true }, kinds := [], alts := [], laidByText := true, laidKinds := [.wider], laidTests := true, laidLooks := .later }
def FnExactClassesOfCardSaid : Prop := Claim7.holds Tryd.pinned (.plain (OpenSpec.ofChange fnExactClassesOfSpec)) fnExactClassesOfCard

/-- THE TIED CARD OF 'laws.FnExactLooksAt'. -/
def fnExactLooksAtCard : Claim7 := { stood := { row := fnExactLooksAtRow, standIns := [], harness := (true, "d66d26c5ec8091cff5550d1733dd0559df47cf2f11a729c0df90fe4e62c5bf06"), looks := true }, kinds := [], alts := [], laidByText := true, laidKinds := [.wider], laidTests := true, laidLooks := .later }
def FnExactLooksAtCardSaid : Prop := Claim7.holds Tryd.pinned (.plain (OpenSpec.ofChange fnExactLooksAtSpec)) fnExactLooksAtCard

/-- THE SECOND FORM's CARD OF 'laws.FnExactClassesOf'. -/
def fnExactClassesOfUptoCard : Claim7 := { stood := { row := fnExactClassesOfUptoRow, standIns := [], harness := (true, "d66d26c5ec8091cff5550d1733dd0559df47cf2f11a729c0df90fe4e62c5bf06"), looks := true }, kinds := [], alts := [], laidByText := true, laidKinds := [.wider], laidTests := true, laidLooks := .later }
def FnExactClassesOfUptoCardSaid : Prop := Claim7.holds Tryd.pinned (.plain (OpenSpec.upto fnExactClassesOfSpec)) fnExactClassesOfUptoCard

/-- THE SECOND FORM's CARD OF 'laws.FnExactLooksAt'. -/
def fnExactLooksAtUptoCard : Claim7 := { stood := { row := fnExactLooksAtUptoRow, standIns := [], harness := (true, "d66d26c5ec8091cff5550d1733dd0559df47cf2f11a729c0df90fe4e62c5bf06"), looks := true }, kinds := [], alts := [], laidByText := true, laidKinds := [.wider], laidTests := true, laidLooks := .later }
def FnExactLooksAtUptoCardSaid : Prop := Claim7.holds Tryd.pinned (.plain (OpenSpec.upto fnExactLooksAtSpec)) fnExactLooksAtUptoCard
end Rows
end Go.Proofs.YtojcgajjnmjjpaaDoor
