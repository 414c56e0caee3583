/-
  DERIVED. GIVEN WITH THE SEED: THE CARDS: each row of YtflniajjecfgeaaDoorRows.lean that lists a variable, with what it lists TIED to the program's text (the seventh form; the later family's looks); each row that meets fmt, with fmt's text TOLD by the authors' own Lean function (tested against real Go, not proved from fmt's source: count such statements apart). THE CARD IS WHAT COUNTS. Prove the row's statement (the work); the ties are given (YtflniajjecfgeaaDoorTie.lean); close each card by the builder's one call (the guide's Derived/Test/ToyasCard.lean, 'card_holds'). Laid BY PROGRAM, IN A SANDBOX (cutbox-door.mjs). By AI agents, Wed Nov 11 2026. No macro, syntax, notation, axiom, sorry.
-/
import Derived.Test.YtflniajjecfgeaaDoorRows
import GoSem.ClaimSeven
namespace Go.Proofs.YtflniajjecfgeaaDoor
namespace Rows

/-- THE TIED CARD OF 'laws.FnExactIsCompact'. -/
def fnExactIsCompactCard : Claim7 := { stood := { row := fnExactIsCompactRow, standIns := [], harness := (true, "821e7a69ca7e188432005dc76847f95ae0c51877838348557f8853f485fd55cd"), looks := false }, kinds := [], alts := [], laidByText := true, laidKinds := [.data, .data], laidTests := true, laidLooks := .later }
def FnExactIsCompactCardSaid : Prop := Claim7.holds Tryd.pinned (.plain (OpenSpec.ofChange fnExactIsCompactSpec)) fnExactIsCompactCard

/-- THE SECOND FORM's CARD OF 'laws.FnExactIsCompact'. -/
def fnExactIsCompactUptoCard : Claim7 := { stood := { row := fnExactIsCompactUptoRow, standIns := [], harness := (true, "821e7a69ca7e188432005dc76847f95ae0c51877838348557f8853f485fd55cd"), looks := false }, kinds := [], alts := [], laidByText := true, laidKinds := [.data, .data], laidTests := true, laidLooks := .later }
def FnExactIsCompactUptoCardSaid : Prop := Claim7.holds Tryd.pinned (.plain (OpenSpec.upto fnExactIsCompactSpec)) fnExactIsCompactUptoCard
end Rows
end Go.Proofs.YtflniajjecfgeaaDoor
