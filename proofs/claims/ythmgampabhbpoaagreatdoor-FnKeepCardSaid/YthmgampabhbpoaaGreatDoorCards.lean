/-
  DERIVED. GIVEN WITH THE SEED: THE CARDS: each row of YthmgampabhbpoaaGreatDoorRows.lean that lists a variable, with what it lists TIED to the program's text (the seventh form; the later family's looks); each row that meets fmt, with fmt's text TOLD by the authors' own Lean function (tested against real Go, not proved from fmt's source: count such statements apart). THE CARD IS WHAT COUNTS. Prove the row's statement (the work); the ties are given (YthmgampabhbpoaaGreatDoorTie.lean); close each card by the builder's one call (the guide's Derived/Test/ToyasCard.lean, 'card_holds'). Laid BY PROGRAM, IN A SANDBOX (cutbox-door.mjs). By AI agents, Wed Nov 11 2026. No macro, syntax, notation, axiom, sorry.
-/
import Derived.Test.YthmgampabhbpoaaGreatDoorRows
import GoSem.ClaimSeven
namespace Go.Proofs.YthmgampabhbpoaaGreatDoor
namespace Rows

/-- THE TIED CARD OF 'laws.FnKeep'. -/
def fnKeepCard : Claim7 := { stood := { row := fnKeepRow, standIns := [], harness := (true, "443b49ae895de4e3045e81ae35325fa5ce9c2ecb7c98fb1e2da1b5c7c9e46be3"), looks := true }, kinds := [], alts := [], laidByText := true, laidKinds := [.wider], laidTests := true, laidLooks := .later }
def FnKeepCardSaid : Prop := Claim7.holds Tryz.pinned (.plain (OpenSpec.ofChange fnKeepSpec)) fnKeepCard

/-- THE TIED CARD OF 'laws.FnMemo'. -/
def fnMemoCard : Claim7 := { stood := { row := fnMemoRow, standIns := [], harness := (true, "443b49ae895de4e3045e81ae35325fa5ce9c2ecb7c98fb1e2da1b5c7c9e46be3"), looks := true }, kinds := [], alts := [], laidByText := true, laidKinds := [.handle, .wider], laidTests := true, laidLooks := .later }
def FnMemoCardSaid : Prop := Claim7.holds Tryz.pinned (.plain (OpenSpec.ofChange fnMemoSpec)) fnMemoCard

/-- THE TIED CARD OF 'laws.FnExactKeepEntries'. -/
def fnExactKeepEntriesCard : Claim7 := { stood := { row := fnExactKeepEntriesRow, standIns := [], harness := (true, "443b49ae895de4e3045e81ae35325fa5ce9c2ecb7c98fb1e2da1b5c7c9e46be3"), looks := true }, kinds := [], alts := [], laidByText := true, laidKinds := [.wider], laidTests := true, laidLooks := .later }
def FnExactKeepEntriesCardSaid : Prop := Claim7.holds Tryz.pinned (.plain (OpenSpec.ofChange fnExactKeepEntriesSpec)) fnExactKeepEntriesCard

/-- THE SECOND FORM's CARD OF 'laws.FnKeep'. -/
def fnKeepUptoCard : Claim7 := { stood := { row := fnKeepUptoRow, standIns := [], harness := (true, "443b49ae895de4e3045e81ae35325fa5ce9c2ecb7c98fb1e2da1b5c7c9e46be3"), looks := true }, kinds := [], alts := [], laidByText := true, laidKinds := [.wider], laidTests := true, laidLooks := .later }
def FnKeepUptoCardSaid : Prop := Claim7.holds Tryz.pinned (.plain (OpenSpec.upto fnKeepSpec)) fnKeepUptoCard

/-- THE SECOND FORM's CARD OF 'laws.FnMemo'. -/
def fnMemoUptoCard : Claim7 := { stood := { row := fnMemoUptoRow, standIns := [], harness := (true, "443b49ae895de4e3045e81ae35325fa5ce9c2ecb7c98fb1e2da1b5c7c9e46be3"), looks := true }, kinds := [], alts := [], laidByText := true, laidKinds := [.handle, .wider], laidTests := true, laidLooks := .later }
def FnMemoUptoCardSaid : Prop := Claim7.holds Tryz.pinned (.plain (OpenSpec.upto fnMemoSpec)) fnMemoUptoCard

/-- THE SECOND FORM's CARD OF 'laws.FnExactKeepEntries'. -/
def fnExactKeepEntriesUptoCard : Claim7 := { stood := { row := fnExactKeepEntriesUptoRow, standIns := [], harness := (true, "443b49ae895de4e3045e81ae35325fa5ce9c2ecb7c98fb1e2da1b5c7c9e46be3"), looks := true }, kinds := [], alts := [], laidByText := true, laidKinds := [.wider], laidTests := true, laidLooks := .later }
def FnExactKeepEntriesUptoCardSaid : Prop := Claim7.holds Tryz.pinned (.plain (OpenSpec.upto fnExactKeepEntriesSpec)) fnExactKeepEntriesUptoCard
end Rows
end Go.Proofs.YthmgampabhbpoaaGreatDoor
