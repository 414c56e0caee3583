/-
  DERIVED. GIVEN WITH THE SEED: THE CARDS: each row of YtflniajjecfgeaaGreatDoorRows.lean that lists a variable, with what it lists TIED to the program's text (the seventh form; the later family's looks); each row that meets fmt, with fmt's text TOLD by the authors' own Lean function (tested against real Go, not proved from fmt's source: count such statements apart). THE CARD IS WHAT COUNTS. Prove the row's statement (the work); the ties are given (YtflniajjecfgeaaGreatDoorTie.lean); close each card by the builder's one call (the guide's Derived/Test/ToyasCard.lean, 'card_holds'). Laid BY PROGRAM, IN A SANDBOX (cutbox-door.mjs). By AI agents, Wed Nov 11 2026. No macro, syntax, notation, axiom, sorry.
-/
import Derived.Test.YtflniajjecfgeaaGreatDoorRows
import GoSem.ClaimSeven
namespace Go.Proofs.YtflniajjecfgeaaGreatDoor
namespace Rows

/-- THE TIED CARD OF 'laws.FnExactDefragStep'. -/
def fnExactDefragStepCard : Claim7 := { stood := { row := fnExactDefragStepRow, standIns := [], harness := (true, "cbbea0c797d6075d2a13cd1fd6509eb64d1831ce7f3fc1117edcfe7308d916b7"), looks := false }, kinds := [], alts := [], laidByText := true, laidKinds := [.data, .data], laidTests := true, laidLooks := .later }
def FnExactDefragStepCardSaid : Prop := Claim7.holds Tryz.pinned (.plain (OpenSpec.ofChange fnExactDefragStepSpec)) fnExactDefragStepCard

/-- THE TIED CARD OF 'laws.FnExactDefragment'. -/
def fnExactDefragmentCard : Claim7 := { stood := { row := fnExactDefragmentRow, standIns := [], harness := (true, "cbbea0c797d6075d2a13cd1fd6509eb64d1831ce7f3fc1117edcfe7308d916b7"), looks := false }, kinds := [], alts := [], laidByText := true, laidKinds := [.data, .data], laidTests := true, laidLooks := .later }
def FnExactDefragmentCardSaid : Prop := Claim7.holds Tryz.pinned (.plain (OpenSpec.ofChange fnExactDefragmentSpec)) fnExactDefragmentCard

/-- THE TIED CARD OF 'laws.FnExactApplyAction'. -/
def fnExactApplyActionCard : Claim7 := { stood := { row := fnExactApplyActionRow, standIns := [], harness := (true, "cbbea0c797d6075d2a13cd1fd6509eb64d1831ce7f3fc1117edcfe7308d916b7"), looks := false }, kinds := [], alts := [], laidByText := true, laidKinds := [.sentinel], laidTests := true, laidLooks := .later }
def FnExactApplyActionCardSaid : Prop := Claim7.holds Tryz.pinned (.plain (OpenSpec.ofChange fnExactApplyActionSpec)) fnExactApplyActionCard

/-- THE SECOND FORM's CARD OF 'laws.FnExactDefragStep'. -/
def fnExactDefragStepUptoCard : Claim7 := { stood := { row := fnExactDefragStepUptoRow, standIns := [], harness := (true, "cbbea0c797d6075d2a13cd1fd6509eb64d1831ce7f3fc1117edcfe7308d916b7"), looks := false }, kinds := [], alts := [], laidByText := true, laidKinds := [.data, .data], laidTests := true, laidLooks := .later }
def FnExactDefragStepUptoCardSaid : Prop := Claim7.holds Tryz.pinned (.plain (OpenSpec.upto fnExactDefragStepSpec)) fnExactDefragStepUptoCard

/-- THE SECOND FORM's CARD OF 'laws.FnExactDefragment'. -/
def fnExactDefragmentUptoCard : Claim7 := { stood := { row := fnExactDefragmentUptoRow, standIns := [], harness := (true, "cbbea0c797d6075d2a13cd1fd6509eb64d1831ce7f3fc1117edcfe7308d916b7"), looks := false }, kinds := [], alts := [], laidByText := true, laidKinds := [.data, .data], laidTests := true, laidLooks := .later }
def FnExactDefragmentUptoCardSaid : Prop := Claim7.holds Tryz.pinned (.plain (OpenSpec.upto fnExactDefragmentSpec)) fnExactDefragmentUptoCard

/-- THE SECOND FORM's CARD OF 'laws.FnExactApplyAction'. -/
def fnExactApplyActionUptoCard : Claim7 := { stood := { row := fnExactApplyActionUptoRow, standIns := [], harness := (true, "cbbea0c797d6075d2a13cd1fd6509eb64d1831ce7f3fc1117edcfe7308d916b7"), looks := false }, kinds := [], alts := [], laidByText := true, laidKinds := [.sentinel], laidTests := true, laidLooks := .later }
def FnExactApplyActionUptoCardSaid : Prop := Claim7.holds Tryz.pinned (.plain (OpenSpec.upto fnExactApplyActionSpec)) fnExactApplyActionUptoCard
end Rows
end Go.Proofs.YtflniajjecfgeaaGreatDoor
