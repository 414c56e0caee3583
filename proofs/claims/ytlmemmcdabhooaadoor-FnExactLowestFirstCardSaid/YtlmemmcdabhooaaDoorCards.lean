/-
  DERIVED. GIVEN WITH THE SEED: THE CARDS: each row of YtlmemmcdabhooaaDoorRows.lean that lists a variable, with what it lists TIED to the program's text (the seventh form; the later family's looks); each row that meets fmt, with fmt's text TOLD by the authors' own Lean function (tested against real Go, not proved from fmt's source: count such statements apart). THE CARD IS WHAT COUNTS. Prove the row's statement (the work); the ties are given (YtlmemmcdabhooaaDoorTie.lean); close each card by the builder's one call (the guide's Derived/Test/ToyasCard.lean, 'card_holds'). Laid BY PROGRAM, IN A SANDBOX (cutbox-door.mjs). By AI agents, Wed Nov 11 2026. No macro, syntax, notation, axiom, sorry.
-/
import Derived.Test.YtlmemmcdabhooaaDoorRows
import GoSem.ClaimSeven
namespace Go.Proofs.YtlmemmcdabhooaaDoor
namespace Rows

/-- THE TIED CARD OF 'laws.FnExactLowestFirst'. -/
def fnExactLowestFirstCard : Claim7 := { stood := { row := fnExactLowestFirstRow, standIns := [], harness := (true, "2381d1488653059daf5c0124b876f363a2fedd90668d43b6e67c15cff6de574e"), looks := false }, kinds := [], alts := [], laidByText := true, laidKinds := [.data, .data], laidTests := true, laidLooks := .later }
def FnExactLowestFirstCardSaid : Prop := Claim7.holds Tryd.pinned (.plain (OpenSpec.ofChange fnExactLowestFirstSpec)) fnExactLowestFirstCard

/-- THE TIED CARD OF 'laws.FnExactFormatRoute'. -/
def fnExactFormatRouteCard : Claim7 := { stood := { row := fnExactFormatRouteRow, standIns := [], harness := (true, "2381d1488653059daf5c0124b876f363a2fedd90668d43b6e67c15cff6de574e"), looks := false }, kinds := [], alts := [], laidByText := true, laidKinds := [.data, .data, .data], laidTests := true, laidLooks := .later }
def FnExactFormatRouteCardSaid : Prop := Claim7.holds Tryd.pinned (.plain (OpenSpec.ofChange fnExactFormatRouteSpec)) fnExactFormatRouteCard

/-- THE SECOND FORM's CARD OF 'laws.FnExactLowestFirst'. -/
def fnExactLowestFirstUptoCard : Claim7 := { stood := { row := fnExactLowestFirstUptoRow, standIns := [], harness := (true, "2381d1488653059daf5c0124b876f363a2fedd90668d43b6e67c15cff6de574e"), looks := false }, kinds := [], alts := [], laidByText := true, laidKinds := [.data, .data], laidTests := true, laidLooks := .later }
def FnExactLowestFirstUptoCardSaid : Prop := Claim7.holds Tryd.pinned (.plain (OpenSpec.upto fnExactLowestFirstSpec)) fnExactLowestFirstUptoCard

/-- THE SECOND FORM's CARD OF 'laws.FnExactFormatRoute'. -/
def fnExactFormatRouteUptoCard : Claim7 := { stood := { row := fnExactFormatRouteUptoRow, standIns := [], harness := (true, "2381d1488653059daf5c0124b876f363a2fedd90668d43b6e67c15cff6de574e"), looks := false }, kinds := [], alts := [], laidByText := true, laidKinds := [.data, .data, .data], laidTests := true, laidLooks := .later }
def FnExactFormatRouteUptoCardSaid : Prop := Claim7.holds Tryd.pinned (.plain (OpenSpec.upto fnExactFormatRouteSpec)) fnExactFormatRouteUptoCard
end Rows
end Go.Proofs.YtlmemmcdabhooaaDoor
