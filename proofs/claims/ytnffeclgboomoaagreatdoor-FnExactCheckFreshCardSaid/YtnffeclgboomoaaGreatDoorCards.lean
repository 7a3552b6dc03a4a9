/-
  DERIVED. GIVEN WITH THE SEED: THE CARDS: each row of YtnffeclgboomoaaGreatDoorRows.lean that lists a variable, with what it lists TIED to the program's text (the seventh form; the later family's looks); each row that meets fmt, with fmt's text TOLD by the authors' own Lean function (tested against real Go, not proved from fmt's source: count such statements apart). THE CARD IS WHAT COUNTS. Prove the row's statement (the work); the ties are given (YtnffeclgboomoaaGreatDoorTie.lean); close each card by the builder's one call (the guide's Derived/Test/ToyasCard.lean, 'card_holds'). Laid BY PROGRAM, IN A SANDBOX (cutbox-door.mjs). By AI agents, Wed Nov 11 2026. No macro, syntax, notation, axiom, sorry.
-/
import Derived.Test.YtnffeclgboomoaaGreatDoorRows
import GoSem.ClaimSeven
namespace Go.Proofs.YtnffeclgboomoaaGreatDoor
namespace Rows

/-- THE TIED CARD OF 'laws.FnFootprint'. -/
def fnFootprintCard : Claim7 := { stood := { row := fnFootprintRow, standIns := [], harness := (true, "288334e78780d1d4cb8782c73ead989dba029f5048a3dd896d54074a93b3aabe"), looks := true }, kinds := [], alts := [], laidByText := true, laidKinds := [.wider], laidTests := true, laidLooks := .later }
def FnFootprintCardSaid : Prop := Claim7.holds Tryz.pinned (.plain (OpenSpec.ofChange fnFootprintSpec)) fnFootprintCard

/-- THE TIED CARD OF 'laws.FnFresh'. -/
def fnFreshCard : Claim7 := { stood := { row := fnFreshRow, standIns := [], harness := (true, "288334e78780d1d4cb8782c73ead989dba029f5048a3dd896d54074a93b3aabe"), looks := true }, kinds := [], alts := [], laidByText := true, laidKinds := [.wider], laidTests := true, laidLooks := .later }
def FnFreshCardSaid : Prop := Claim7.holds Tryz.pinned (.plain (OpenSpec.ofChange fnFreshSpec)) fnFreshCard

/-- THE TIED CARD OF 'laws.FnAgain'. -/
def fnAgainCard : Claim7 := { stood := { row := fnAgainRow, standIns := [], harness := (true, "288334e78780d1d4cb8782c73ead989dba029f5048a3dd896d54074a93b3aabe"), looks := true }, kinds := [], alts := [], laidByText := true, laidKinds := [.wider], laidTests := true, laidLooks := .later }
def FnAgainCardSaid : Prop := Claim7.holds Tryz.pinned (.plain (OpenSpec.ofChange fnAgainSpec)) fnAgainCard

/-- THE TIED CARD OF 'laws.FnExactCheckFresh'. -/
def fnExactCheckFreshCard : Claim7 := { stood := { row := fnExactCheckFreshRow, standIns := [], harness := (true, "288334e78780d1d4cb8782c73ead989dba029f5048a3dd896d54074a93b3aabe"), looks := true }, kinds := [], alts := [], laidByText := true, laidKinds := [.wider], laidTests := true, laidLooks := .later }
def FnExactCheckFreshCardSaid : Prop := Claim7.holds Tryz.pinned (.plain (OpenSpec.ofChange fnExactCheckFreshSpec)) fnExactCheckFreshCard

/-- THE TIED CARD OF 'laws.FnExactCheckAgain'. -/
def fnExactCheckAgainCard : Claim7 := { stood := { row := fnExactCheckAgainRow, standIns := [], harness := (true, "288334e78780d1d4cb8782c73ead989dba029f5048a3dd896d54074a93b3aabe"), looks := true }, kinds := [], alts := [], laidByText := true, laidKinds := [.wider], laidTests := true, laidLooks := .later }
def FnExactCheckAgainCardSaid : Prop := Claim7.holds Tryz.pinned (.plain (OpenSpec.ofChange fnExactCheckAgainSpec)) fnExactCheckAgainCard

/-- THE TIED CARD OF 'laws.FnExactEntryTrue'. -/
def fnExactEntryTrueCard : Claim7 := { stood := { row := fnExactEntryTrueRow, standIns := [], harness := (true, "288334e78780d1d4cb8782c73ead989dba029f5048a3dd896d54074a93b3aabe"), looks := true }, kinds := [], alts := [], laidByText := true, laidKinds := [.wider], laidTests := true, laidLooks := .later }
def FnExactEntryTrueCardSaid : Prop := Claim7.holds Tryz.pinned (.plain (OpenSpec.ofChange fnExactEntryTrueSpec)) fnExactEntryTrueCard

/-- THE TIED CARD OF 'laws.FnExactMemoTrue'. -/
def fnExactMemoTrueCard : Claim7 := { stood := { row := fnExactMemoTrueRow, standIns := [], harness := (true, "288334e78780d1d4cb8782c73ead989dba029f5048a3dd896d54074a93b3aabe"), looks := true }, kinds := [], alts := [], laidByText := true, laidKinds := [.wider], laidTests := true, laidLooks := .later }
def FnExactMemoTrueCardSaid : Prop := Claim7.holds Tryz.pinned (.plain (OpenSpec.ofChange fnExactMemoTrueSpec)) fnExactMemoTrueCard

/-- THE SECOND FORM's CARD OF 'laws.FnFootprint'. -/
def fnFootprintUptoCard : Claim7 := { stood := { row := fnFootprintUptoRow, standIns := [], harness := (true, "288334e78780d1d4cb8782c73ead989dba029f5048a3dd896d54074a93b3aabe"), looks := true }, kinds := [], alts := [], laidByText := true, laidKinds := [.wider], laidTests := true, laidLooks := .later }
def FnFootprintUptoCardSaid : Prop := Claim7.holds Tryz.pinned (.plain (OpenSpec.upto fnFootprintSpec)) fnFootprintUptoCard

/-- THE SECOND FORM's CARD OF 'laws.FnFresh'. -/
def fnFreshUptoCard : Claim7 := { stood := { row := fnFreshUptoRow, standIns := [], harness := (true, "288334e78780d1d4cb8782c73ead989dba029f5048a3dd896d54074a93b3aabe"), looks := true }, kinds := [], alts := [], laidByText := true, laidKinds := [.wider], laidTests := true, laidLooks := .later }
def FnFreshUptoCardSaid : Prop := Claim7.holds Tryz.pinned (.plain (OpenSpec.upto fnFreshSpec)) fnFreshUptoCard

/-- THE SECOND FORM's CARD OF 'laws.FnAgain'. -/
def fnAgainUptoCard : Claim7 := { stood := { row := fnAgainUptoRow, standIns := [], harness := (true, "288334e78780d1d4cb8782c73ead989dba029f5048a3dd896d54074a93b3aabe"), looks := true }, kinds := [], alts := [], laidByText := true, laidKinds := [.wider], laidTests := true, laidLooks := .later }
def FnAgainUptoCardSaid : Prop := Claim7.holds Tryz.pinned (.plain (OpenSpec.upto fnAgainSpec)) fnAgainUptoCard

/-- THE SECOND FORM's CARD OF 'laws.FnExactCheckFresh'. -/
def fnExactCheckFreshUptoCard : Claim7 := { stood := { row := fnExactCheckFreshUptoRow, standIns := [], harness := (true, "288334e78780d1d4cb8782c73ead989dba029f5048a3dd896d54074a93b3aabe"), looks := true }, kinds := [], alts := [], laidByText := true, laidKinds := [.wider], laidTests := true, laidLooks := .later }
def FnExactCheckFreshUptoCardSaid : Prop := Claim7.holds Tryz.pinned (.plain (OpenSpec.upto fnExactCheckFreshSpec)) fnExactCheckFreshUptoCard

/-- THE SECOND FORM's CARD OF 'laws.FnExactCheckAgain'. -/
def fnExactCheckAgainUptoCard : Claim7 := { stood := { row := fnExactCheckAgainUptoRow, standIns := [], harness := (true, "288334e78780d1d4cb8782c73ead989dba029f5048a3dd896d54074a93b3aabe"), looks := true }, kinds := [], alts := [], laidByText := true, laidKinds := [.wider], laidTests := true, laidLooks := .later }
def FnExactCheckAgainUptoCardSaid : Prop := Claim7.holds Tryz.pinned (.plain (OpenSpec.upto fnExactCheckAgainSpec)) fnExactCheckAgainUptoCard

/-- THE SECOND FORM's CARD OF 'laws.FnExactEntryTrue'. -/
def fnExactEntryTrueUptoCard : Claim7 := { stood := { row := fnExactEntryTrueUptoRow, standIns := [], harness := (true, "288334e78780d1d4cb8782c73ead989dba029f5048a3dd896d54074a93b3aabe"), looks := true }, kinds := [], alts := [], laidByText := true, laidKinds := [.wider], laidTests := true, laidLooks := .later }
def FnExactEntryTrueUptoCardSaid : Prop := Claim7.holds Tryz.pinned (.plain (OpenSpec.upto fnExactEntryTrueSpec)) fnExactEntryTrueUptoCard

/-- THE SECOND FORM's CARD OF 'laws.FnExactMemoTrue'. -/
def fnExactMemoTrueUptoCard : Claim7 := { stood := { row := fnExactMemoTrueUptoRow, standIns := [], harness := (true, "288334e78780d1d4cb8782c73ead989dba029f5048a3dd896d54074a93b3aabe"), looks := true }, kinds := [], alts := [], laidByText := true, laidKinds := [.wider], laidTests := true, laidLooks := .later }
def FnExactMemoTrueUptoCardSaid : Prop := Claim7.holds Tryz.pinned (.plain (OpenSpec.upto fnExactMemoTrueSpec)) fnExactMemoTrueUptoCard
end Rows
end Go.Proofs.YtnffeclgboomoaaGreatDoor
