/-
  DERIVED. GIVEN WITH THE SEED: THE CARDS: each row of YtlgkjidginibdaaDoorRows.lean that lists a variable, with what it lists TIED to the program's text (the seventh form; the later family's looks); each row that meets fmt, with fmt's text TOLD by the authors' own Lean function (tested against real Go, not proved from fmt's source: count such statements apart). THE CARD IS WHAT COUNTS. Prove the row's statement (the work); the ties are given (YtlgkjidginibdaaDoorTie.lean); close each card by the builder's one call (the guide's Derived/Test/ToyasCard.lean, 'card_holds'). Laid BY PROGRAM, IN A SANDBOX (cutbox-door.mjs). By AI agents, Wed Nov 11 2026. No macro, syntax, notation, axiom, sorry.
-/
import Derived.Test.YtlgkjidginibdaaDoorRows
import GoSem.ClaimSeven
namespace Go.Proofs.YtlgkjidginibdaaDoor
namespace Rows

/-- THE TIED CARD OF 'laws.FnExactServiceMasks'. -/
def fnExactServiceMasksCard : Claim7 := { stood := { row := fnExactServiceMasksRow, standIns := [], harness := (true, "b7d65082545e8e3cac7370942148a438eb1da38865f1aa27ba379da9eb509816"), looks := false }, kinds := [], alts := [], laidByText := true, laidKinds := [.data, .data], laidTests := true, laidLooks := .later }
def FnExactServiceMasksCardSaid : Prop := Claim7.holds Tryd.pinned (.plain (OpenSpec.ofChange fnExactServiceMasksSpec)) fnExactServiceMasksCard

/-- THE TIED CARD OF 'laws.FnExactSharedSaving'. -/
def fnExactSharedSavingCard : Claim7 := { stood := { row := fnExactSharedSavingRow, standIns := [], harness := (true, "b7d65082545e8e3cac7370942148a438eb1da38865f1aa27ba379da9eb509816"), looks := false }, kinds := [], alts := [], laidByText := true, laidKinds := [.data, .data], laidTests := true, laidLooks := .later }
def FnExactSharedSavingCardSaid : Prop := Claim7.holds Tryd.pinned (.plain (OpenSpec.ofChange fnExactSharedSavingSpec)) fnExactSharedSavingCard

/-- THE TIED CARD OF 'laws.FnExactFewestUnits'. -/
def fnExactFewestUnitsCard : Claim7 := { stood := { row := fnExactFewestUnitsRow, standIns := [], harness := (true, "b7d65082545e8e3cac7370942148a438eb1da38865f1aa27ba379da9eb509816"), looks := false }, kinds := [], alts := [], laidByText := true, laidKinds := [.data, .data], laidTests := true, laidLooks := .later }
def FnExactFewestUnitsCardSaid : Prop := Claim7.holds Tryd.pinned (.plain (OpenSpec.ofChange fnExactFewestUnitsSpec)) fnExactFewestUnitsCard

/-- THE SECOND FORM's CARD OF 'laws.FnExactServiceMasks'. -/
def fnExactServiceMasksUptoCard : Claim7 := { stood := { row := fnExactServiceMasksUptoRow, standIns := [], harness := (true, "b7d65082545e8e3cac7370942148a438eb1da38865f1aa27ba379da9eb509816"), looks := false }, kinds := [], alts := [], laidByText := true, laidKinds := [.data, .data], laidTests := true, laidLooks := .later }
def FnExactServiceMasksUptoCardSaid : Prop := Claim7.holds Tryd.pinned (.plain (OpenSpec.upto fnExactServiceMasksSpec)) fnExactServiceMasksUptoCard

/-- THE SECOND FORM's CARD OF 'laws.FnExactSharedSaving'. -/
def fnExactSharedSavingUptoCard : Claim7 := { stood := { row := fnExactSharedSavingUptoRow, standIns := [], harness := (true, "b7d65082545e8e3cac7370942148a438eb1da38865f1aa27ba379da9eb509816"), looks := false }, kinds := [], alts := [], laidByText := true, laidKinds := [.data, .data], laidTests := true, laidLooks := .later }
def FnExactSharedSavingUptoCardSaid : Prop := Claim7.holds Tryd.pinned (.plain (OpenSpec.upto fnExactSharedSavingSpec)) fnExactSharedSavingUptoCard

/-- THE SECOND FORM's CARD OF 'laws.FnExactFewestUnits'. -/
def fnExactFewestUnitsUptoCard : Claim7 := { stood := { row := fnExactFewestUnitsUptoRow, standIns := [], harness := (true, "b7d65082545e8e3cac7370942148a438eb1da38865f1aa27ba379da9eb509816"), looks := false }, kinds := [], alts := [], laidByText := true, laidKinds := [.data, .data], laidTests := true, laidLooks := .later }
def FnExactFewestUnitsUptoCardSaid : Prop := Claim7.holds Tryd.pinned (.plain (OpenSpec.upto fnExactFewestUnitsSpec)) fnExactFewestUnitsUptoCard
end Rows
end Go.Proofs.YtlgkjidginibdaaDoor
