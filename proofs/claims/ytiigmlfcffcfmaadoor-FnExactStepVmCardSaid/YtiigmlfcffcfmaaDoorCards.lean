/-
  DERIVED. GIVEN WITH THE SEED: THE CARDS: each row of YtiigmlfcffcfmaaDoorRows.lean that lists a variable, with what it lists TIED to the program's text (the seventh form; the later family's looks); each row that meets fmt, with fmt's text TOLD by the authors' own Lean function (tested against real Go, not proved from fmt's source: count such statements apart). THE CARD IS WHAT COUNTS. Prove the row's statement (the work); the ties are given (YtiigmlfcffcfmaaDoorTie.lean); close each card by the builder's one call (the guide's Derived/Test/ToyasCard.lean, 'card_holds'). Laid BY PROGRAM, IN A SANDBOX (cutbox-door.mjs). By AI agents, Wed Nov 11 2026. No macro, syntax, notation, axiom, sorry.
-/
import Derived.Test.YtiigmlfcffcfmaaDoorRows
import GoSem.ClaimSeven
namespace Go.Proofs.YtiigmlfcffcfmaaDoor
namespace Rows

/-- THE TIED CARD OF 'laws.FnStep'. -/
def fnStepCard : Claim7 := { stood := { row := fnStepRow, standIns := [], harness := (true, "9d95fd8916028a755fcc0afaff500c8bcd20cfb12250bf5a5cd09e18df784e33"), looks := true }, kinds := [], alts := [], laidByText := true, laidKinds := [.wider], laidTests := true, laidLooks := .later }
def FnStepCardSaid : Prop := Claim7.holds Tryd.pinned (.plain (OpenSpec.ofChange fnStepSpec)) fnStepCard

/-- THE TIED CARD OF 'laws.FnKey'. -/
def fnKeyCard : Claim7 := { stood := { row := fnKeyRow, standIns := [], harness := (true, "9d95fd8916028a755fcc0afaff500c8bcd20cfb12250bf5a5cd09e18df784e33"), looks := true }, kinds := [], alts := [], laidByText := true, laidKinds := [.wider], laidTests := true, laidLooks := .later }
def FnKeyCardSaid : Prop := Claim7.holds Tryd.pinned (.plain (OpenSpec.ofChange fnKeySpec)) fnKeyCard

/-- THE TIED CARD OF 'laws.FnExactVmOK'. -/
def fnExactVmOKCard : Claim7 := { stood := { row := fnExactVmOKRow, standIns := [], harness := (true, "9d95fd8916028a755fcc0afaff500c8bcd20cfb12250bf5a5cd09e18df784e33"), looks := true }, kinds := [], alts := [], laidByText := true, laidKinds := [.wider], laidTests := true, laidLooks := .later }
def FnExactVmOKCardSaid : Prop := Claim7.holds Tryd.pinned (.plain (OpenSpec.ofChange fnExactVmOKSpec)) fnExactVmOKCard

/-- THE TIED CARD OF 'laws.FnExactIsDone'. -/
def fnExactIsDoneCard : Claim7 := { stood := { row := fnExactIsDoneRow, standIns := [], harness := (true, "9d95fd8916028a755fcc0afaff500c8bcd20cfb12250bf5a5cd09e18df784e33"), looks := true }, kinds := [], alts := [], laidByText := true, laidKinds := [.wider], laidTests := true, laidLooks := .later }
def FnExactIsDoneCardSaid : Prop := Claim7.holds Tryd.pinned (.plain (OpenSpec.ofChange fnExactIsDoneSpec)) fnExactIsDoneCard

/-- THE TIED CARD OF 'laws.FnExactEnabledOf'. -/
def fnExactEnabledOfCard : Claim7 := { stood := { row := fnExactEnabledOfRow, standIns := [], harness := (true, "9d95fd8916028a755fcc0afaff500c8bcd20cfb12250bf5a5cd09e18df784e33"), looks := true }, kinds := [], alts := [], laidByText := true, laidKinds := [.wider], laidTests := true, laidLooks := .later }
def FnExactEnabledOfCardSaid : Prop := Claim7.holds Tryd.pinned (.plain (OpenSpec.ofChange fnExactEnabledOfSpec)) fnExactEnabledOfCard

/-- THE TIED CARD OF 'laws.FnExactStepVm'. -/
def fnExactStepVmCard : Claim7 := { stood := { row := fnExactStepVmRow, standIns := [], harness := (true, "9d95fd8916028a755fcc0afaff500c8bcd20cfb12250bf5a5cd09e18df784e33"), looks := true }, kinds := [], alts := [], laidByText := true, laidKinds := [.wider], laidTests := true, laidLooks := .later }
def FnExactStepVmCardSaid : Prop := Claim7.holds Tryd.pinned (.plain (OpenSpec.ofChange fnExactStepVmSpec)) fnExactStepVmCard

/-- THE TIED CARD OF 'laws.FnExactIsStuck'. -/
def fnExactIsStuckCard : Claim7 := { stood := { row := fnExactIsStuckRow, standIns := [], harness := (true, "9d95fd8916028a755fcc0afaff500c8bcd20cfb12250bf5a5cd09e18df784e33"), looks := true }, kinds := [], alts := [], laidByText := true, laidKinds := [.wider], laidTests := true, laidLooks := .later }
def FnExactIsStuckCardSaid : Prop := Claim7.holds Tryd.pinned (.plain (OpenSpec.ofChange fnExactIsStuckSpec)) fnExactIsStuckCard

/-- THE TIED CARD OF 'laws.FnExactKeyOf'. -/
def fnExactKeyOfCard : Claim7 := { stood := { row := fnExactKeyOfRow, standIns := [], harness := (true, "9d95fd8916028a755fcc0afaff500c8bcd20cfb12250bf5a5cd09e18df784e33"), looks := true }, kinds := [], alts := [], laidByText := true, laidKinds := [.wider], laidTests := true, laidLooks := .later }
def FnExactKeyOfCardSaid : Prop := Claim7.holds Tryd.pinned (.plain (OpenSpec.ofChange fnExactKeyOfSpec)) fnExactKeyOfCard

/-- THE TIED CARD OF 'laws.FnExactVmOf'. -/
def fnExactVmOfCard : Claim7 := { stood := { row := fnExactVmOfRow, standIns := [], harness := (true, "9d95fd8916028a755fcc0afaff500c8bcd20cfb12250bf5a5cd09e18df784e33"), looks := true }, kinds := [], alts := [], laidByText := true, laidKinds := [.wider], laidTests := true, laidLooks := .later }
def FnExactVmOfCardSaid : Prop := Claim7.holds Tryd.pinned (.plain (OpenSpec.ofChange fnExactVmOfSpec)) fnExactVmOfCard

/-- THE TIED CARD OF 'laws.FnExactSameVm'. -/
def fnExactSameVmCard : Claim7 := { stood := { row := fnExactSameVmRow, standIns := [], harness := (true, "9d95fd8916028a755fcc0afaff500c8bcd20cfb12250bf5a5cd09e18df784e33"), looks := true }, kinds := [], alts := [], laidByText := true, laidKinds := [.wider], laidTests := true, laidLooks := .later }
def FnExactSameVmCardSaid : Prop := Claim7.holds Tryd.pinned (.plain (OpenSpec.ofChange fnExactSameVmSpec)) fnExactSameVmCard

/-- THE SECOND FORM's CARD OF 'laws.FnStep'. -/
def fnStepUptoCard : Claim7 := { stood := { row := fnStepUptoRow, standIns := [], harness := (true, "9d95fd8916028a755fcc0afaff500c8bcd20cfb12250bf5a5cd09e18df784e33"), looks := true }, kinds := [], alts := [], laidByText := true, laidKinds := [.wider], laidTests := true, laidLooks := .later }
def FnStepUptoCardSaid : Prop := Claim7.holds Tryd.pinned (.plain (OpenSpec.upto fnStepSpec)) fnStepUptoCard

/-- THE SECOND FORM's CARD OF 'laws.FnKey'. -/
def fnKeyUptoCard : Claim7 := { stood := { row := fnKeyUptoRow, standIns := [], harness := (true, "9d95fd8916028a755fcc0afaff500c8bcd20cfb12250bf5a5cd09e18df784e33"), looks := true }, kinds := [], alts := [], laidByText := true, laidKinds := [.wider], laidTests := true, laidLooks := .later }
def FnKeyUptoCardSaid : Prop := Claim7.holds Tryd.pinned (.plain (OpenSpec.upto fnKeySpec)) fnKeyUptoCard

/-- THE SECOND FORM's CARD OF 'laws.FnExactVmOK'. -/
def fnExactVmOKUptoCard : Claim7 := { stood := { row := fnExactVmOKUptoRow, standIns := [], harness := (true, "9d95fd8916028a755fcc0afaff500c8bcd20cfb12250bf5a5cd09e18df784e33"), looks := true }, kinds := [], alts := [], laidByText := true, laidKinds := [.wider], laidTests := true, laidLooks := .later }
def FnExactVmOKUptoCardSaid : Prop := Claim7.holds Tryd.pinned (.plain (OpenSpec.upto fnExactVmOKSpec)) fnExactVmOKUptoCard

/-- THE SECOND FORM's CARD OF 'laws.FnExactIsDone'. -/
def fnExactIsDoneUptoCard : Claim7 := { stood := { row := fnExactIsDoneUptoRow, standIns := [], harness := (true, "9d95fd8916028a755fcc0afaff500c8bcd20cfb12250bf5a5cd09e18df784e33"), looks := true }, kinds := [], alts := [], laidByText := true, laidKinds := [.wider], laidTests := true, laidLooks := .later }
def FnExactIsDoneUptoCardSaid : Prop := Claim7.holds Tryd.pinned (.plain (OpenSpec.upto fnExactIsDoneSpec)) fnExactIsDoneUptoCard

/-- THE SECOND FORM's CARD OF 'laws.FnExactEnabledOf'. -/
def fnExactEnabledOfUptoCard : Claim7 := { stood := { row := fnExactEnabledOfUptoRow, standIns := [], harness := (true, "9d95fd8916028a755fcc0afaff500c8bcd20cfb12250bf5a5cd09e18df784e33"), looks := true }, kinds := [], alts := [], laidByText := true, laidKinds := [.wider], laidTests := true, laidLooks := .later }
def FnExactEnabledOfUptoCardSaid : Prop := Claim7.holds Tryd.pinned (.plain (OpenSpec.upto fnExactEnabledOfSpec)) fnExactEnabledOfUptoCard

/-- THE SECOND FORM's CARD OF 'laws.FnExactStepVm'. -/
def fnExactStepVmUptoCard : Claim7 := { stood := { row := fnExactStepVmUptoRow, standIns := [], harness := (true, "9d95fd8916028a755fcc0afaff500c8bcd20cfb12250bf5a5cd09e18df784e33"), looks := true }, kinds := [], alts := [], laidByText := true, laidKinds := [.wider], laidTests := true, laidLooks := .later }
def FnExactStepVmUptoCardSaid : Prop := Claim7.holds Tryd.pinned (.plain (OpenSpec.upto fnExactStepVmSpec)) fnExactStepVmUptoCard

/-- THE SECOND FORM's CARD OF 'laws.FnExactIsStuck'. -/
def fnExactIsStuckUptoCard : Claim7 := { stood := { row := fnExactIsStuckUptoRow, standIns := [], harness := (true, "9d95fd8916028a755fcc0afaff500c8bcd20cfb12250bf5a5cd09e18df784e33"), looks := true }, kinds := [], alts := [], laidByText := true, laidKinds := [.wider], laidTests := true, laidLooks := .later }
def FnExactIsStuckUptoCardSaid : Prop := Claim7.holds Tryd.pinned (.plain (OpenSpec.upto fnExactIsStuckSpec)) fnExactIsStuckUptoCard

/-- THE SECOND FORM's CARD OF 'laws.FnExactKeyOf'. -/
def fnExactKeyOfUptoCard : Claim7 := { stood := { row := fnExactKeyOfUptoRow, standIns := [], harness := (true, "9d95fd8916028a755fcc0afaff500c8bcd20cfb12250bf5a5cd09e18df784e33"), looks := true }, kinds := [], alts := [], laidByText := true, laidKinds := [.wider], laidTests := true, laidLooks := .later }
def FnExactKeyOfUptoCardSaid : Prop := Claim7.holds Tryd.pinned (.plain (OpenSpec.upto fnExactKeyOfSpec)) fnExactKeyOfUptoCard

/-- THE SECOND FORM's CARD OF 'laws.FnExactVmOf'. -/
def fnExactVmOfUptoCard : Claim7 := { stood := { row := fnExactVmOfUptoRow, standIns := [], harness := (true, "9d95fd8916028a755fcc0afaff500c8bcd20cfb12250bf5a5cd09e18df784e33"), looks := true }, kinds := [], alts := [], laidByText := true, laidKinds := [.wider], laidTests := true, laidLooks := .later }
def FnExactVmOfUptoCardSaid : Prop := Claim7.holds Tryd.pinned (.plain (OpenSpec.upto fnExactVmOfSpec)) fnExactVmOfUptoCard

/-- THE SECOND FORM's CARD OF 'laws.FnExactSameVm'. -/
def fnExactSameVmUptoCard : Claim7 := { stood := { row := fnExactSameVmUptoRow, standIns := [], harness := (true, "9d95fd8916028a755fcc0afaff500c8bcd20cfb12250bf5a5cd09e18df784e33"), looks := true }, kinds := [], alts := [], laidByText := true, laidKinds := [.wider], laidTests := true, laidLooks := .later }
def FnExactSameVmUptoCardSaid : Prop := Claim7.holds Tryd.pinned (.plain (OpenSpec.upto fnExactSameVmSpec)) fnExactSameVmUptoCard
end Rows
end Go.Proofs.YtiigmlfcffcfmaaDoor
