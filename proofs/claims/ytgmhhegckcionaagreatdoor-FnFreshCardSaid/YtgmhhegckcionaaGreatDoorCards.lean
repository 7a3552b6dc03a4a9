/-
  DERIVED. GIVEN WITH THE SEED: THE CARDS: each row of YtgmhhegckcionaaGreatDoorRows.lean that lists a variable, with what it lists TIED to the program's text (the seventh form; the later family's looks); each row that meets fmt, with fmt's text TOLD by the authors' own Lean function (tested against real Go, not proved from fmt's source: count such statements apart). THE CARD IS WHAT COUNTS. Prove the row's statement (the work); the ties are given (YtgmhhegckcionaaGreatDoorTie.lean); close each card by the builder's one call (the guide's Derived/Test/ToyasCard.lean, 'card_holds'). Laid BY PROGRAM, IN A SANDBOX (cutbox-door.mjs). By AI agents, Wed Nov 11 2026. No macro, syntax, notation, axiom, sorry.
-/
import Derived.Test.YtgmhhegckcionaaGreatDoorRows
import GoSem.ClaimSeven
namespace Go.Proofs.YtgmhhegckcionaaGreatDoor
namespace Rows

/-- THE TIED CARD OF 'laws.FnFootprint'. -/
def fnFootprintCard : Claim7 := { stood := { row := fnFootprintRow, standIns := [], harness := (true, "9a141e29b04e867f1f42586d8c7fe8e8206f708386ef0d43811fc1b90a9708b5"), looks := true }, kinds := [], alts := [], laidByText := true, laidKinds := [.wider], laidTests := true, laidLooks := .later }
def FnFootprintCardSaid : Prop := Claim7.holds Tryz.pinned (.plain (OpenSpec.ofChange fnFootprintSpec)) fnFootprintCard

/-- THE TIED CARD OF 'laws.FnFresh'. -/
def fnFreshCard : Claim7 := { stood := { row := fnFreshRow, standIns := [], harness := (true, "9a141e29b04e867f1f42586d8c7fe8e8206f708386ef0d43811fc1b90a9708b5"), looks := true }, kinds := [], alts := [], laidByText := true, laidKinds := [.wider], laidTests := true, laidLooks := .later }
def FnFreshCardSaid : Prop := Claim7.holds Tryz.pinned (.plain (OpenSpec.ofChange fnFreshSpec)) fnFreshCard

/-- THE TIED CARD OF 'laws.FnAgain'. -/
def fnAgainCard : Claim7 := { stood := { row := fnAgainRow, standIns := [], harness := (true, "9a141e29b04e867f1f42586d8c7fe8e8206f708386ef0d43811fc1b90a9708b5"), looks := true }, kinds := [], alts := [], laidByText := true, laidKinds := [.wider], laidTests := true, laidLooks := .later }
def FnAgainCardSaid : Prop := Claim7.holds Tryz.pinned (.plain (OpenSpec.ofChange fnAgainSpec)) fnAgainCard

/-- THE SECOND FORM's CARD OF 'laws.FnFootprint'. -/
def fnFootprintUptoCard : Claim7 := { stood := { row := fnFootprintUptoRow, standIns := [], harness := (true, "9a141e29b04e867f1f42586d8c7fe8e8206f708386ef0d43811fc1b90a9708b5"), looks := true }, kinds := [], alts := [], laidByText := true, laidKinds := [.wider], laidTests := true, laidLooks := .later }
def FnFootprintUptoCardSaid : Prop := Claim7.holds Tryz.pinned (.plain (OpenSpec.upto fnFootprintSpec)) fnFootprintUptoCard

/-- THE SECOND FORM's CARD OF 'laws.FnFresh'. -/
def fnFreshUptoCard : Claim7 := { stood := { row := fnFreshUptoRow, standIns := [], harness := (true, "9a141e29b04e867f1f42586d8c7fe8e8206f708386ef0d43811fc1b90a9708b5"), looks := true }, kinds := [], alts := [], laidByText := true, laidKinds := [.wider], laidTests := true, laidLooks := .later }
def FnFreshUptoCardSaid : Prop := Claim7.holds Tryz.pinned (.plain (OpenSpec.upto fnFreshSpec)) fnFreshUptoCard

/-- THE SECOND FORM's CARD OF 'laws.FnAgain'. -/
def fnAgainUptoCard : Claim7 := { stood := { row := fnAgainUptoRow, standIns := [], harness := (true, "9a141e29b04e867f1f42586d8c7fe8e8206f708386ef0d43811fc1b90a9708b5"), looks := true }, kinds := [], alts := [], laidByText := true, laidKinds := [.wider], laidTests := true, laidLooks := .later }
def FnAgainUptoCardSaid : Prop := Claim7.holds Tryz.pinned (.plain (OpenSpec.upto fnAgainSpec)) fnAgainUptoCard
end Rows
end Go.Proofs.YtgmhhegckcionaaGreatDoor
