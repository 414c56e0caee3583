/-
  DERIVED. GIVEN WITH THE SEED: THE CARDS: each row of YteihdnjdpiejmabDoorRows.lean that lists a variable, with what it lists TIED to the program's text (the seventh form; the later family's looks); each row that meets fmt, with fmt's text TOLD by the authors' own Lean function (tested against real Go, not proved from fmt's source: count such statements apart). THE CARD IS WHAT COUNTS. Prove the row's statement (the work); the ties are given (YteihdnjdpiejmabDoorTie.lean); close each card by the builder's one call (the guide's Derived/Test/ToyasCard.lean, 'card_holds'). Laid BY PROGRAM, IN A SANDBOX (cutbox-door.mjs). By AI agents, Wed Nov 11 2026. No macro, syntax, notation, axiom, sorry.
-/
import Derived.Test.YteihdnjdpiejmabDoorRows
import GoSem.ClaimSeven
namespace Go.Proofs.YteihdnjdpiejmabDoor
namespace Rows

/-- THE TIED CARD OF 'laws.FnExactFreeRuns'. -/
def fnExactFreeRunsCard : Claim7 := { stood := { row := fnExactFreeRunsRow, standIns := [], harness := (true, "1da8ab22abd7c3407cf91de8285694d7120926e31f89040d732e98223b3fb587"), looks := false }, kinds := [], alts := [], laidByText := true, laidKinds := [.data, .data], laidTests := true, laidLooks := .later }
def FnExactFreeRunsCardSaid : Prop := Claim7.holds Tryd.pinned (.plain (OpenSpec.ofChange fnExactFreeRunsSpec)) fnExactFreeRunsCard

/-- THE TIED CARD OF 'laws.FnExactBestFit'. -/
def fnExactBestFitCard : Claim7 := { stood := { row := fnExactBestFitRow, standIns := [], harness := (true, "1da8ab22abd7c3407cf91de8285694d7120926e31f89040d732e98223b3fb587"), looks := false }, kinds := [], alts := [], laidByText := true, laidKinds := [.data, .data], laidTests := true, laidLooks := .later }
def FnExactBestFitCardSaid : Prop := Claim7.holds Tryd.pinned (.plain (OpenSpec.ofChange fnExactBestFitSpec)) fnExactBestFitCard

/-- THE TIED CARD OF 'laws.FnExactSpectrumUse'. -/
def fnExactSpectrumUseCard : Claim7 := { stood := { row := fnExactSpectrumUseRow, standIns := [], harness := (true, "1da8ab22abd7c3407cf91de8285694d7120926e31f89040d732e98223b3fb587"), looks := false }, kinds := [], alts := [], laidByText := true, laidKinds := [.data, .data], laidTests := true, laidLooks := .later }
def FnExactSpectrumUseCardSaid : Prop := Claim7.holds Tryd.pinned (.plain (OpenSpec.ofChange fnExactSpectrumUseSpec)) fnExactSpectrumUseCard

/-- THE TIED CARD OF 'laws.FnExactFormatBlock'. -/
def fnExactFormatBlockCard : Claim7 := { stood := { row := fnExactFormatBlockRow, standIns := [], harness := (true, "1da8ab22abd7c3407cf91de8285694d7120926e31f89040d732e98223b3fb587"), looks := false }, kinds := [], alts := [], laidByText := true, laidKinds := [.data, .data, .data], laidTests := true, laidLooks := .later }
def FnExactFormatBlockCardSaid : Prop := Claim7.holds Tryd.pinned (.plain (OpenSpec.ofChange fnExactFormatBlockSpec)) fnExactFormatBlockCard

/-- THE TIED CARD OF 'laws.FnExactParseBlock'. -/
def fnExactParseBlockCard : Claim7 := { stood := { row := fnExactParseBlockRow, standIns := [], harness := (true, "1da8ab22abd7c3407cf91de8285694d7120926e31f89040d732e98223b3fb587"), looks := false }, kinds := [], alts := [], laidByText := true, laidKinds := [.data, .data, .data], laidTests := true, laidLooks := .later }
def FnExactParseBlockCardSaid : Prop := Claim7.holds Tryd.pinned (.plain (OpenSpec.ofChange fnExactParseBlockSpec)) fnExactParseBlockCard

/-- THE SECOND FORM's CARD OF 'laws.FnExactFreeRuns'. -/
def fnExactFreeRunsUptoCard : Claim7 := { stood := { row := fnExactFreeRunsUptoRow, standIns := [], harness := (true, "1da8ab22abd7c3407cf91de8285694d7120926e31f89040d732e98223b3fb587"), looks := false }, kinds := [], alts := [], laidByText := true, laidKinds := [.data, .data], laidTests := true, laidLooks := .later }
def FnExactFreeRunsUptoCardSaid : Prop := Claim7.holds Tryd.pinned (.plain (OpenSpec.upto fnExactFreeRunsSpec)) fnExactFreeRunsUptoCard

/-- THE SECOND FORM's CARD OF 'laws.FnExactBestFit'. -/
def fnExactBestFitUptoCard : Claim7 := { stood := { row := fnExactBestFitUptoRow, standIns := [], harness := (true, "1da8ab22abd7c3407cf91de8285694d7120926e31f89040d732e98223b3fb587"), looks := false }, kinds := [], alts := [], laidByText := true, laidKinds := [.data, .data], laidTests := true, laidLooks := .later }
def FnExactBestFitUptoCardSaid : Prop := Claim7.holds Tryd.pinned (.plain (OpenSpec.upto fnExactBestFitSpec)) fnExactBestFitUptoCard

/-- THE SECOND FORM's CARD OF 'laws.FnExactSpectrumUse'. -/
def fnExactSpectrumUseUptoCard : Claim7 := { stood := { row := fnExactSpectrumUseUptoRow, standIns := [], harness := (true, "1da8ab22abd7c3407cf91de8285694d7120926e31f89040d732e98223b3fb587"), looks := false }, kinds := [], alts := [], laidByText := true, laidKinds := [.data, .data], laidTests := true, laidLooks := .later }
def FnExactSpectrumUseUptoCardSaid : Prop := Claim7.holds Tryd.pinned (.plain (OpenSpec.upto fnExactSpectrumUseSpec)) fnExactSpectrumUseUptoCard

/-- THE SECOND FORM's CARD OF 'laws.FnExactFormatBlock'. -/
def fnExactFormatBlockUptoCard : Claim7 := { stood := { row := fnExactFormatBlockUptoRow, standIns := [], harness := (true, "1da8ab22abd7c3407cf91de8285694d7120926e31f89040d732e98223b3fb587"), looks := false }, kinds := [], alts := [], laidByText := true, laidKinds := [.data, .data, .data], laidTests := true, laidLooks := .later }
def FnExactFormatBlockUptoCardSaid : Prop := Claim7.holds Tryd.pinned (.plain (OpenSpec.upto fnExactFormatBlockSpec)) fnExactFormatBlockUptoCard

/-- THE SECOND FORM's CARD OF 'laws.FnExactParseBlock'. -/
def fnExactParseBlockUptoCard : Claim7 := { stood := { row := fnExactParseBlockUptoRow, standIns := [], harness := (true, "1da8ab22abd7c3407cf91de8285694d7120926e31f89040d732e98223b3fb587"), looks := false }, kinds := [], alts := [], laidByText := true, laidKinds := [.data, .data, .data], laidTests := true, laidLooks := .later }
def FnExactParseBlockUptoCardSaid : Prop := Claim7.holds Tryd.pinned (.plain (OpenSpec.upto fnExactParseBlockSpec)) fnExactParseBlockUptoCard
end Rows
end Go.Proofs.YteihdnjdpiejmabDoor
