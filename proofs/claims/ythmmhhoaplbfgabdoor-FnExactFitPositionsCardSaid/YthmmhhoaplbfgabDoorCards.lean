/-
  DERIVED. GIVEN WITH THE SEED: THE CARDS: each row of YthmmhhoaplbfgabDoorRows.lean that lists a variable, with what it lists TIED to the program's text (the seventh form; the later family's looks); each row that meets fmt, with fmt's text TOLD by the authors' own Lean function (tested against real Go, not proved from fmt's source: count such statements apart). THE CARD IS WHAT COUNTS. Prove the row's statement (the work); the ties are given (YthmmhhoaplbfgabDoorTie.lean); close each card by the builder's one call (the guide's Derived/Test/ToyasCard.lean, 'card_holds'). Laid BY PROGRAM, IN A SANDBOX (cutbox-door.mjs). By AI agents, Wed Nov 11 2026. No macro, syntax, notation, axiom, sorry.
-/
import Derived.Test.YthmmhhoaplbfgabDoorRows
import GoSem.ClaimSeven
namespace Go.Proofs.YthmmhhoaplbfgabDoor
namespace Rows

/-- THE TIED CARD OF 'laws.FnExactSharedFibers'. -/
def fnExactSharedFibersCard : Claim7 := { stood := { row := fnExactSharedFibersRow, standIns := [], harness := (true, "c40fed3b5af96f14bbd75f6bcc5927b7bcaedd9487d0b9fe721d9c675153b663"), looks := false }, kinds := [], alts := [], laidByText := true, laidKinds := [.data, .data], laidTests := true, laidLooks := .later }
def FnExactSharedFibersCardSaid : Prop := Claim7.holds Tryd.pinned (.plain (OpenSpec.ofChange fnExactSharedFibersSpec)) fnExactSharedFibersCard

/-- THE TIED CARD OF 'laws.FnExactFreeRuns'. -/
def fnExactFreeRunsCard : Claim7 := { stood := { row := fnExactFreeRunsRow, standIns := [], harness := (true, "c40fed3b5af96f14bbd75f6bcc5927b7bcaedd9487d0b9fe721d9c675153b663"), looks := false }, kinds := [], alts := [], laidByText := true, laidKinds := [.data, .data], laidTests := true, laidLooks := .later }
def FnExactFreeRunsCardSaid : Prop := Claim7.holds Tryd.pinned (.plain (OpenSpec.ofChange fnExactFreeRunsSpec)) fnExactFreeRunsCard

/-- THE TIED CARD OF 'laws.FnExactFirstFit'. -/
def fnExactFirstFitCard : Claim7 := { stood := { row := fnExactFirstFitRow, standIns := [], harness := (true, "c40fed3b5af96f14bbd75f6bcc5927b7bcaedd9487d0b9fe721d9c675153b663"), looks := false }, kinds := [], alts := [], laidByText := true, laidKinds := [.data, .data], laidTests := true, laidLooks := .later }
def FnExactFirstFitCardSaid : Prop := Claim7.holds Tryd.pinned (.plain (OpenSpec.ofChange fnExactFirstFitSpec)) fnExactFirstFitCard

/-- THE TIED CARD OF 'laws.FnExactBestFit'. -/
def fnExactBestFitCard : Claim7 := { stood := { row := fnExactBestFitRow, standIns := [], harness := (true, "c40fed3b5af96f14bbd75f6bcc5927b7bcaedd9487d0b9fe721d9c675153b663"), looks := false }, kinds := [], alts := [], laidByText := true, laidKinds := [.data, .data], laidTests := true, laidLooks := .later }
def FnExactBestFitCardSaid : Prop := Claim7.holds Tryd.pinned (.plain (OpenSpec.ofChange fnExactBestFitSpec)) fnExactBestFitCard

/-- THE TIED CARD OF 'laws.FnExactFitPositions'. -/
def fnExactFitPositionsCard : Claim7 := { stood := { row := fnExactFitPositionsRow, standIns := [], harness := (true, "c40fed3b5af96f14bbd75f6bcc5927b7bcaedd9487d0b9fe721d9c675153b663"), looks := false }, kinds := [], alts := [], laidByText := true, laidKinds := [.data, .data], laidTests := true, laidLooks := .later }
def FnExactFitPositionsCardSaid : Prop := Claim7.holds Tryd.pinned (.plain (OpenSpec.ofChange fnExactFitPositionsSpec)) fnExactFitPositionsCard

/-- THE TIED CARD OF 'laws.FnExactSpectrumUse'. -/
def fnExactSpectrumUseCard : Claim7 := { stood := { row := fnExactSpectrumUseRow, standIns := [], harness := (true, "c40fed3b5af96f14bbd75f6bcc5927b7bcaedd9487d0b9fe721d9c675153b663"), looks := false }, kinds := [], alts := [], laidByText := true, laidKinds := [.data, .data], laidTests := true, laidLooks := .later }
def FnExactSpectrumUseCardSaid : Prop := Claim7.holds Tryd.pinned (.plain (OpenSpec.ofChange fnExactSpectrumUseSpec)) fnExactSpectrumUseCard

/-- THE SECOND FORM's CARD OF 'laws.FnExactSharedFibers'. -/
def fnExactSharedFibersUptoCard : Claim7 := { stood := { row := fnExactSharedFibersUptoRow, standIns := [], harness := (true, "c40fed3b5af96f14bbd75f6bcc5927b7bcaedd9487d0b9fe721d9c675153b663"), looks := false }, kinds := [], alts := [], laidByText := true, laidKinds := [.data, .data], laidTests := true, laidLooks := .later }
def FnExactSharedFibersUptoCardSaid : Prop := Claim7.holds Tryd.pinned (.plain (OpenSpec.upto fnExactSharedFibersSpec)) fnExactSharedFibersUptoCard

/-- THE SECOND FORM's CARD OF 'laws.FnExactFreeRuns'. -/
def fnExactFreeRunsUptoCard : Claim7 := { stood := { row := fnExactFreeRunsUptoRow, standIns := [], harness := (true, "c40fed3b5af96f14bbd75f6bcc5927b7bcaedd9487d0b9fe721d9c675153b663"), looks := false }, kinds := [], alts := [], laidByText := true, laidKinds := [.data, .data], laidTests := true, laidLooks := .later }
def FnExactFreeRunsUptoCardSaid : Prop := Claim7.holds Tryd.pinned (.plain (OpenSpec.upto fnExactFreeRunsSpec)) fnExactFreeRunsUptoCard

/-- THE SECOND FORM's CARD OF 'laws.FnExactFirstFit'. -/
def fnExactFirstFitUptoCard : Claim7 := { stood := { row := fnExactFirstFitUptoRow, standIns := [], harness := (true, "c40fed3b5af96f14bbd75f6bcc5927b7bcaedd9487d0b9fe721d9c675153b663"), looks := false }, kinds := [], alts := [], laidByText := true, laidKinds := [.data, .data], laidTests := true, laidLooks := .later }
def FnExactFirstFitUptoCardSaid : Prop := Claim7.holds Tryd.pinned (.plain (OpenSpec.upto fnExactFirstFitSpec)) fnExactFirstFitUptoCard

/-- THE SECOND FORM's CARD OF 'laws.FnExactBestFit'. -/
def fnExactBestFitUptoCard : Claim7 := { stood := { row := fnExactBestFitUptoRow, standIns := [], harness := (true, "c40fed3b5af96f14bbd75f6bcc5927b7bcaedd9487d0b9fe721d9c675153b663"), looks := false }, kinds := [], alts := [], laidByText := true, laidKinds := [.data, .data], laidTests := true, laidLooks := .later }
def FnExactBestFitUptoCardSaid : Prop := Claim7.holds Tryd.pinned (.plain (OpenSpec.upto fnExactBestFitSpec)) fnExactBestFitUptoCard

/-- THE SECOND FORM's CARD OF 'laws.FnExactFitPositions'. -/
def fnExactFitPositionsUptoCard : Claim7 := { stood := { row := fnExactFitPositionsUptoRow, standIns := [], harness := (true, "c40fed3b5af96f14bbd75f6bcc5927b7bcaedd9487d0b9fe721d9c675153b663"), looks := false }, kinds := [], alts := [], laidByText := true, laidKinds := [.data, .data], laidTests := true, laidLooks := .later }
def FnExactFitPositionsUptoCardSaid : Prop := Claim7.holds Tryd.pinned (.plain (OpenSpec.upto fnExactFitPositionsSpec)) fnExactFitPositionsUptoCard

/-- THE SECOND FORM's CARD OF 'laws.FnExactSpectrumUse'. -/
def fnExactSpectrumUseUptoCard : Claim7 := { stood := { row := fnExactSpectrumUseUptoRow, standIns := [], harness := (true, "c40fed3b5af96f14bbd75f6bcc5927b7bcaedd9487d0b9fe721d9c675153b663"), looks := false }, kinds := [], alts := [], laidByText := true, laidKinds := [.data, .data], laidTests := true, laidLooks := .later }
def FnExactSpectrumUseUptoCardSaid : Prop := Claim7.holds Tryd.pinned (.plain (OpenSpec.upto fnExactSpectrumUseSpec)) fnExactSpectrumUseUptoCard
end Rows
end Go.Proofs.YthmmhhoaplbfgabDoor
