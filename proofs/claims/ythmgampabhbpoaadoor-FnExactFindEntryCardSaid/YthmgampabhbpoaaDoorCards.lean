/-
  DERIVED. GIVEN WITH THE SEED: THE CARDS: each row of YthmgampabhbpoaaDoorRows.lean that lists a variable, with what it lists TIED to the program's text (the seventh form; the later family's looks); each row that meets fmt, with fmt's text TOLD by the authors' own Lean function (tested against real Go, not proved from fmt's source: count such statements apart). THE CARD IS WHAT COUNTS. Prove the row's statement (the work); the ties are given (YthmgampabhbpoaaDoorTie.lean); close each card by the builder's one call (the guide's Derived/Test/ToyasCard.lean, 'card_holds'). Laid BY PROGRAM, IN A SANDBOX (cutbox-door.mjs). By AI agents, Wed Nov 11 2026. No macro, syntax, notation, axiom, sorry.
-/
import Derived.Test.YthmgampabhbpoaaDoorRows
import GoSem.ClaimSeven
namespace Go.Proofs.YthmgampabhbpoaaDoor
namespace Rows

/-- THE TIED CARD OF 'laws.FnExactEntryOK'. -/
def fnExactEntryOKCard : Claim7 := { stood := { row := fnExactEntryOKRow, standIns := [], harness := (true, "436dbc765638746d4e0f2b2233015272c87edfca9a8a0189ecf0b313bee75414"), looks := true }, kinds := [], alts := [], laidByText := true, laidKinds := [.wider], laidTests := true, laidLooks := .later }
def FnExactEntryOKCardSaid : Prop := Claim7.holds Tryd.pinned (.plain (OpenSpec.ofChange fnExactEntryOKSpec)) fnExactEntryOKCard

/-- THE TIED CARD OF 'laws.FnExactMemoOK'. -/
def fnExactMemoOKCard : Claim7 := { stood := { row := fnExactMemoOKRow, standIns := [], harness := (true, "436dbc765638746d4e0f2b2233015272c87edfca9a8a0189ecf0b313bee75414"), looks := true }, kinds := [], alts := [], laidByText := true, laidKinds := [.wider], laidTests := true, laidLooks := .later }
def FnExactMemoOKCardSaid : Prop := Claim7.holds Tryd.pinned (.plain (OpenSpec.ofChange fnExactMemoOKSpec)) fnExactMemoOKCard

/-- THE TIED CARD OF 'laws.FnExactFindEntry'. -/
def fnExactFindEntryCard : Claim7 := { stood := { row := fnExactFindEntryRow, standIns := [], harness := (true, "436dbc765638746d4e0f2b2233015272c87edfca9a8a0189ecf0b313bee75414"), looks := true }, kinds := [], alts := [], laidByText := true, laidKinds := [.wider], laidTests := true, laidLooks := .later }
def FnExactFindEntryCardSaid : Prop := Claim7.holds Tryd.pinned (.plain (OpenSpec.ofChange fnExactFindEntrySpec)) fnExactFindEntryCard

/-- THE TIED CARD OF 'laws.FnExactPutEntry'. -/
def fnExactPutEntryCard : Claim7 := { stood := { row := fnExactPutEntryRow, standIns := [], harness := (true, "436dbc765638746d4e0f2b2233015272c87edfca9a8a0189ecf0b313bee75414"), looks := true }, kinds := [], alts := [], laidByText := true, laidKinds := [.wider], laidTests := true, laidLooks := .later }
def FnExactPutEntryCardSaid : Prop := Claim7.holds Tryd.pinned (.plain (OpenSpec.ofChange fnExactPutEntrySpec)) fnExactPutEntryCard

/-- THE TIED CARD OF 'laws.FnExactEntryText'. -/
def fnExactEntryTextCard : Claim7 := { stood := { row := fnExactEntryTextRow, standIns := [], harness := (true, "436dbc765638746d4e0f2b2233015272c87edfca9a8a0189ecf0b313bee75414"), looks := true }, kinds := [], alts := [], laidByText := true, laidKinds := [.wider], laidTests := true, laidLooks := .later }
def FnExactEntryTextCardSaid : Prop := Claim7.holds Tryd.pinned (.plain (OpenSpec.ofChange fnExactEntryTextSpec)) fnExactEntryTextCard

/-- THE TIED CARD OF 'laws.FnExactReadEntry'. -/
def fnExactReadEntryCard : Claim7 := { stood := { row := fnExactReadEntryRow, standIns := [], harness := (true, "436dbc765638746d4e0f2b2233015272c87edfca9a8a0189ecf0b313bee75414"), looks := true }, kinds := [], alts := [], laidByText := true, laidKinds := [.handle, .wider], laidTests := true, laidLooks := .later }
def FnExactReadEntryCardSaid : Prop := Claim7.holds Tryd.pinned (.plain (OpenSpec.ofChange fnExactReadEntrySpec)) fnExactReadEntryCard

/-- THE TIED CARD OF 'laws.FnExactSameMemo'. -/
def fnExactSameMemoCard : Claim7 := { stood := { row := fnExactSameMemoRow, standIns := [], harness := (true, "436dbc765638746d4e0f2b2233015272c87edfca9a8a0189ecf0b313bee75414"), looks := true }, kinds := [], alts := [], laidByText := true, laidKinds := [.wider], laidTests := true, laidLooks := .later }
def FnExactSameMemoCardSaid : Prop := Claim7.holds Tryd.pinned (.plain (OpenSpec.ofChange fnExactSameMemoSpec)) fnExactSameMemoCard

/-- THE SECOND FORM's CARD OF 'laws.FnExactEntryOK'. -/
def fnExactEntryOKUptoCard : Claim7 := { stood := { row := fnExactEntryOKUptoRow, standIns := [], harness := (true, "436dbc765638746d4e0f2b2233015272c87edfca9a8a0189ecf0b313bee75414"), looks := true }, kinds := [], alts := [], laidByText := true, laidKinds := [.wider], laidTests := true, laidLooks := .later }
def FnExactEntryOKUptoCardSaid : Prop := Claim7.holds Tryd.pinned (.plain (OpenSpec.upto fnExactEntryOKSpec)) fnExactEntryOKUptoCard

/-- THE SECOND FORM's CARD OF 'laws.FnExactMemoOK'. -/
def fnExactMemoOKUptoCard : Claim7 := { stood := { row := fnExactMemoOKUptoRow, standIns := [], harness := (true, "436dbc765638746d4e0f2b2233015272c87edfca9a8a0189ecf0b313bee75414"), looks := true }, kinds := [], alts := [], laidByText := true, laidKinds := [.wider], laidTests := true, laidLooks := .later }
def FnExactMemoOKUptoCardSaid : Prop := Claim7.holds Tryd.pinned (.plain (OpenSpec.upto fnExactMemoOKSpec)) fnExactMemoOKUptoCard

/-- THE SECOND FORM's CARD OF 'laws.FnExactFindEntry'. -/
def fnExactFindEntryUptoCard : Claim7 := { stood := { row := fnExactFindEntryUptoRow, standIns := [], harness := (true, "436dbc765638746d4e0f2b2233015272c87edfca9a8a0189ecf0b313bee75414"), looks := true }, kinds := [], alts := [], laidByText := true, laidKinds := [.wider], laidTests := true, laidLooks := .later }
def FnExactFindEntryUptoCardSaid : Prop := Claim7.holds Tryd.pinned (.plain (OpenSpec.upto fnExactFindEntrySpec)) fnExactFindEntryUptoCard

/-- THE SECOND FORM's CARD OF 'laws.FnExactPutEntry'. -/
def fnExactPutEntryUptoCard : Claim7 := { stood := { row := fnExactPutEntryUptoRow, standIns := [], harness := (true, "436dbc765638746d4e0f2b2233015272c87edfca9a8a0189ecf0b313bee75414"), looks := true }, kinds := [], alts := [], laidByText := true, laidKinds := [.wider], laidTests := true, laidLooks := .later }
def FnExactPutEntryUptoCardSaid : Prop := Claim7.holds Tryd.pinned (.plain (OpenSpec.upto fnExactPutEntrySpec)) fnExactPutEntryUptoCard

/-- THE SECOND FORM's CARD OF 'laws.FnExactEntryText'. -/
def fnExactEntryTextUptoCard : Claim7 := { stood := { row := fnExactEntryTextUptoRow, standIns := [], harness := (true, "436dbc765638746d4e0f2b2233015272c87edfca9a8a0189ecf0b313bee75414"), looks := true }, kinds := [], alts := [], laidByText := true, laidKinds := [.wider], laidTests := true, laidLooks := .later }
def FnExactEntryTextUptoCardSaid : Prop := Claim7.holds Tryd.pinned (.plain (OpenSpec.upto fnExactEntryTextSpec)) fnExactEntryTextUptoCard

/-- THE SECOND FORM's CARD OF 'laws.FnExactReadEntry'. -/
def fnExactReadEntryUptoCard : Claim7 := { stood := { row := fnExactReadEntryUptoRow, standIns := [], harness := (true, "436dbc765638746d4e0f2b2233015272c87edfca9a8a0189ecf0b313bee75414"), looks := true }, kinds := [], alts := [], laidByText := true, laidKinds := [.handle, .wider], laidTests := true, laidLooks := .later }
def FnExactReadEntryUptoCardSaid : Prop := Claim7.holds Tryd.pinned (.plain (OpenSpec.upto fnExactReadEntrySpec)) fnExactReadEntryUptoCard

/-- THE SECOND FORM's CARD OF 'laws.FnExactSameMemo'. -/
def fnExactSameMemoUptoCard : Claim7 := { stood := { row := fnExactSameMemoUptoRow, standIns := [], harness := (true, "436dbc765638746d4e0f2b2233015272c87edfca9a8a0189ecf0b313bee75414"), looks := true }, kinds := [], alts := [], laidByText := true, laidKinds := [.wider], laidTests := true, laidLooks := .later }
def FnExactSameMemoUptoCardSaid : Prop := Claim7.holds Tryd.pinned (.plain (OpenSpec.upto fnExactSameMemoSpec)) fnExactSameMemoUptoCard
end Rows
end Go.Proofs.YthmgampabhbpoaaDoor
