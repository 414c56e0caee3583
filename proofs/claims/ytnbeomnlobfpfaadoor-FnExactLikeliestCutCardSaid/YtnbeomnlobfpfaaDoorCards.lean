/-
  DERIVED. GIVEN WITH THE SEED: THE CARDS: each row of YtnbeomnlobfpfaaDoorRows.lean that lists a variable, with what it lists TIED to the program's text (the seventh form; the later family's looks); each row that meets fmt, with fmt's text TOLD by the authors' own Lean function (tested against real Go, not proved from fmt's source: count such statements apart). THE CARD IS WHAT COUNTS. Prove the row's statement (the work); the ties are given (YtnbeomnlobfpfaaDoorTie.lean); close each card by the builder's one call (the guide's Derived/Test/ToyasCard.lean, 'card_holds'). Laid BY PROGRAM, IN A SANDBOX (cutbox-door.mjs). By AI agents, Wed Nov 11 2026. No macro, syntax, notation, axiom, sorry.
-/
import Derived.Test.YtnbeomnlobfpfaaDoorRows
import GoSem.ClaimSeven
namespace Go.Proofs.YtnbeomnlobfpfaaDoor
namespace Rows

/-- THE TIED CARD OF 'laws.FnExactGroupCut'. -/
def fnExactGroupCutCard : Claim7 := { stood := { row := fnExactGroupCutRow, standIns := [], harness := (true, "a531ea00242c8893281bca9b69ebb262dcf39c65f6cda358062f3416c467aea2"), looks := false }, kinds := [], alts := [], laidByText := true, laidKinds := [.data, .data], laidTests := true, laidLooks := .later }
def FnExactGroupCutCardSaid : Prop := Claim7.holds Tryd.pinned (.plain (OpenSpec.ofChange fnExactGroupCutSpec)) fnExactGroupCutCard

/-- THE TIED CARD OF 'laws.FnExactLowestFirst'. -/
def fnExactLowestFirstCard : Claim7 := { stood := { row := fnExactLowestFirstRow, standIns := [], harness := (true, "a531ea00242c8893281bca9b69ebb262dcf39c65f6cda358062f3416c467aea2"), looks := false }, kinds := [], alts := [], laidByText := true, laidKinds := [.data, .data], laidTests := true, laidLooks := .later }
def FnExactLowestFirstCardSaid : Prop := Claim7.holds Tryd.pinned (.plain (OpenSpec.ofChange fnExactLowestFirstSpec)) fnExactLowestFirstCard

/-- THE TIED CARD OF 'laws.FnExactFragmentationOf'. -/
def fnExactFragmentationOfCard : Claim7 := { stood := { row := fnExactFragmentationOfRow, standIns := [], harness := (true, "a531ea00242c8893281bca9b69ebb262dcf39c65f6cda358062f3416c467aea2"), looks := false }, kinds := [], alts := [], laidByText := true, laidKinds := [.data, .data], laidTests := true, laidLooks := .later }
def FnExactFragmentationOfCardSaid : Prop := Claim7.holds Tryd.pinned (.plain (OpenSpec.ofChange fnExactFragmentationOfSpec)) fnExactFragmentationOfCard

/-- THE TIED CARD OF 'laws.FnExactLikeliestCut'. -/
def fnExactLikeliestCutCard : Claim7 := { stood := { row := fnExactLikeliestCutRow, standIns := [], harness := (true, "a531ea00242c8893281bca9b69ebb262dcf39c65f6cda358062f3416c467aea2"), looks := false }, kinds := [], alts := [], laidByText := true, laidKinds := [.data, .data], laidTests := true, laidLooks := .later }
def FnExactLikeliestCutCardSaid : Prop := Claim7.holds Tryd.pinned (.plain (OpenSpec.ofChange fnExactLikeliestCutSpec)) fnExactLikeliestCutCard

/-- THE SECOND FORM's CARD OF 'laws.FnExactGroupCut'. -/
def fnExactGroupCutUptoCard : Claim7 := { stood := { row := fnExactGroupCutUptoRow, standIns := [], harness := (true, "a531ea00242c8893281bca9b69ebb262dcf39c65f6cda358062f3416c467aea2"), looks := false }, kinds := [], alts := [], laidByText := true, laidKinds := [.data, .data], laidTests := true, laidLooks := .later }
def FnExactGroupCutUptoCardSaid : Prop := Claim7.holds Tryd.pinned (.plain (OpenSpec.upto fnExactGroupCutSpec)) fnExactGroupCutUptoCard

/-- THE SECOND FORM's CARD OF 'laws.FnExactLowestFirst'. -/
def fnExactLowestFirstUptoCard : Claim7 := { stood := { row := fnExactLowestFirstUptoRow, standIns := [], harness := (true, "a531ea00242c8893281bca9b69ebb262dcf39c65f6cda358062f3416c467aea2"), looks := false }, kinds := [], alts := [], laidByText := true, laidKinds := [.data, .data], laidTests := true, laidLooks := .later }
def FnExactLowestFirstUptoCardSaid : Prop := Claim7.holds Tryd.pinned (.plain (OpenSpec.upto fnExactLowestFirstSpec)) fnExactLowestFirstUptoCard

/-- THE SECOND FORM's CARD OF 'laws.FnExactFragmentationOf'. -/
def fnExactFragmentationOfUptoCard : Claim7 := { stood := { row := fnExactFragmentationOfUptoRow, standIns := [], harness := (true, "a531ea00242c8893281bca9b69ebb262dcf39c65f6cda358062f3416c467aea2"), looks := false }, kinds := [], alts := [], laidByText := true, laidKinds := [.data, .data], laidTests := true, laidLooks := .later }
def FnExactFragmentationOfUptoCardSaid : Prop := Claim7.holds Tryd.pinned (.plain (OpenSpec.upto fnExactFragmentationOfSpec)) fnExactFragmentationOfUptoCard

/-- THE SECOND FORM's CARD OF 'laws.FnExactLikeliestCut'. -/
def fnExactLikeliestCutUptoCard : Claim7 := { stood := { row := fnExactLikeliestCutUptoRow, standIns := [], harness := (true, "a531ea00242c8893281bca9b69ebb262dcf39c65f6cda358062f3416c467aea2"), looks := false }, kinds := [], alts := [], laidByText := true, laidKinds := [.data, .data], laidTests := true, laidLooks := .later }
def FnExactLikeliestCutUptoCardSaid : Prop := Claim7.holds Tryd.pinned (.plain (OpenSpec.upto fnExactLikeliestCutSpec)) fnExactLikeliestCutUptoCard
end Rows
end Go.Proofs.YtnbeomnlobfpfaaDoor
