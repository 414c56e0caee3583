/-
  DERIVED. GIVEN WITH THE SEED: THE CARDS: each row of YtgaankdmppoghabDoorRows.lean that lists a variable, with what it lists TIED to the program's text (the seventh form; the later family's looks); each row that meets fmt, with fmt's text TOLD by the authors' own Lean function (tested against real Go, not proved from fmt's source: count such statements apart). THE CARD IS WHAT COUNTS. Prove the row's statement (the work); the ties are given (YtgaankdmppoghabDoorTie.lean); close each card by the builder's one call (the guide's Derived/Test/ToyasCard.lean, 'card_holds'). Laid BY PROGRAM, IN A SANDBOX (cutbox-door.mjs). By AI agents, Wed Nov 11 2026. No macro, syntax, notation, axiom, sorry.
-/
import Derived.Test.YtgaankdmppoghabDoorRows
import GoSem.ClaimSeven
namespace Go.Proofs.YtgaankdmppoghabDoor
namespace Rows

/-- THE TIED CARD OF 'laws.FnExactLinearValue'. -/
def fnExactLinearValueCard : Claim7 := { stood := { row := fnExactLinearValueRow, standIns := [], harness := (true, "8b2fe88fc3eef6b166ff25f5f80d5d0f2eeaeca80c66acca911cacc7e51eef91"), looks := false }, kinds := [], alts := [], laidByText := true, laidKinds := [.data], laidTests := true, laidLooks := .later }
def FnExactLinearValueCardSaid : Prop := Claim7.holds Tryd.pinned (.plain (OpenSpec.ofChange fnExactLinearValueSpec)) fnExactLinearValueCard

/-- THE TIED CARD OF 'laws.FnExactLevelOf'. -/
def fnExactLevelOfCard : Claim7 := { stood := { row := fnExactLevelOfRow, standIns := [], harness := (true, "8b2fe88fc3eef6b166ff25f5f80d5d0f2eeaeca80c66acca911cacc7e51eef91"), looks := false }, kinds := [], alts := [], laidByText := true, laidKinds := [.data], laidTests := true, laidLooks := .later }
def FnExactLevelOfCardSaid : Prop := Claim7.holds Tryd.pinned (.plain (OpenSpec.ofChange fnExactLevelOfSpec)) fnExactLevelOfCard

/-- THE TIED CARD OF 'laws.FnExactNoiseSum'. -/
def fnExactNoiseSumCard : Claim7 := { stood := { row := fnExactNoiseSumRow, standIns := [], harness := (true, "8b2fe88fc3eef6b166ff25f5f80d5d0f2eeaeca80c66acca911cacc7e51eef91"), looks := false }, kinds := [], alts := [], laidByText := true, laidKinds := [.data], laidTests := true, laidLooks := .later }
def FnExactNoiseSumCardSaid : Prop := Claim7.holds Tryd.pinned (.plain (OpenSpec.ofChange fnExactNoiseSumSpec)) fnExactNoiseSumCard

/-- THE TIED CARD OF 'laws.FnExactFrameBytes'. -/
def fnExactFrameBytesCard : Claim7 := { stood := { row := fnExactFrameBytesRow, standIns := [], harness := (true, "8b2fe88fc3eef6b166ff25f5f80d5d0f2eeaeca80c66acca911cacc7e51eef91"), looks := false }, kinds := [], alts := [], laidByText := true, laidKinds := [.sentinel], laidTests := true, laidLooks := .later }
def FnExactFrameBytesCardSaid : Prop := Claim7.holds Tryd.pinned (.plain (OpenSpec.ofChange fnExactFrameBytesSpec)) fnExactFrameBytesCard

/-- THE SECOND FORM's CARD OF 'laws.FnExactLinearValue'. -/
def fnExactLinearValueUptoCard : Claim7 := { stood := { row := fnExactLinearValueUptoRow, standIns := [], harness := (true, "8b2fe88fc3eef6b166ff25f5f80d5d0f2eeaeca80c66acca911cacc7e51eef91"), looks := false }, kinds := [], alts := [], laidByText := true, laidKinds := [.data], laidTests := true, laidLooks := .later }
def FnExactLinearValueUptoCardSaid : Prop := Claim7.holds Tryd.pinned (.plain (OpenSpec.upto fnExactLinearValueSpec)) fnExactLinearValueUptoCard

/-- THE SECOND FORM's CARD OF 'laws.FnExactLevelOf'. -/
def fnExactLevelOfUptoCard : Claim7 := { stood := { row := fnExactLevelOfUptoRow, standIns := [], harness := (true, "8b2fe88fc3eef6b166ff25f5f80d5d0f2eeaeca80c66acca911cacc7e51eef91"), looks := false }, kinds := [], alts := [], laidByText := true, laidKinds := [.data], laidTests := true, laidLooks := .later }
def FnExactLevelOfUptoCardSaid : Prop := Claim7.holds Tryd.pinned (.plain (OpenSpec.upto fnExactLevelOfSpec)) fnExactLevelOfUptoCard

/-- THE SECOND FORM's CARD OF 'laws.FnExactNoiseSum'. -/
def fnExactNoiseSumUptoCard : Claim7 := { stood := { row := fnExactNoiseSumUptoRow, standIns := [], harness := (true, "8b2fe88fc3eef6b166ff25f5f80d5d0f2eeaeca80c66acca911cacc7e51eef91"), looks := false }, kinds := [], alts := [], laidByText := true, laidKinds := [.data], laidTests := true, laidLooks := .later }
def FnExactNoiseSumUptoCardSaid : Prop := Claim7.holds Tryd.pinned (.plain (OpenSpec.upto fnExactNoiseSumSpec)) fnExactNoiseSumUptoCard

/-- THE SECOND FORM's CARD OF 'laws.FnExactFrameBytes'. -/
def fnExactFrameBytesUptoCard : Claim7 := { stood := { row := fnExactFrameBytesUptoRow, standIns := [], harness := (true, "8b2fe88fc3eef6b166ff25f5f80d5d0f2eeaeca80c66acca911cacc7e51eef91"), looks := false }, kinds := [], alts := [], laidByText := true, laidKinds := [.sentinel], laidTests := true, laidLooks := .later }
def FnExactFrameBytesUptoCardSaid : Prop := Claim7.holds Tryd.pinned (.plain (OpenSpec.upto fnExactFrameBytesSpec)) fnExactFrameBytesUptoCard
end Rows
end Go.Proofs.YtgaankdmppoghabDoor
