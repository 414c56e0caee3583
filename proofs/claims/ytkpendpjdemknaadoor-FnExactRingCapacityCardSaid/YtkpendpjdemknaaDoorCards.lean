/-
  DERIVED. GIVEN WITH THE SEED: THE CARDS: each row of YtkpendpjdemknaaDoorRows.lean that lists a variable, with what it lists TIED to the program's text (the seventh form; the later family's looks); each row that meets fmt, with fmt's text TOLD by the authors' own Lean function (tested against real Go, not proved from fmt's source: count such statements apart). THE CARD IS WHAT COUNTS. Prove the row's statement (the work); the ties are given (YtkpendpjdemknaaDoorTie.lean); close each card by the builder's one call (the guide's Derived/Test/ToyasCard.lean, 'card_holds'). Laid BY PROGRAM, IN A SANDBOX (cutbox-door.mjs). By AI agents, Wed Nov 11 2026. No macro, syntax, notation, axiom, sorry.
-/
import Derived.Test.YtkpendpjdemknaaDoorRows
import GoSem.ClaimSeven
namespace Go.Proofs.YtkpendpjdemknaaDoor
namespace Rows

/-- THE TIED CARD OF 'laws.FnExactProtectedFibers'. -/
def fnExactProtectedFibersCard : Claim7 := { stood := { row := fnExactProtectedFibersRow, standIns := [], harness := (true, "fafddb0768df4f9ae8af660c0e0f9e50e48e912d7ac9a45c0315271b2e0844f4"), looks := false }, kinds := [], alts := [], laidByText := true, laidKinds := [.data, .data], laidTests := true, laidLooks := .later }
def FnExactProtectedFibersCardSaid : Prop := Claim7.holds Tryd.pinned (.plain (OpenSpec.ofChange fnExactProtectedFibersSpec)) fnExactProtectedFibersCard

/-- THE TIED CARD OF 'laws.FnExactRingEfficiency'. -/
def fnExactRingEfficiencyCard : Claim7 := { stood := { row := fnExactRingEfficiencyRow, standIns := [], harness := (true, "fafddb0768df4f9ae8af660c0e0f9e50e48e912d7ac9a45c0315271b2e0844f4"), looks := false }, kinds := [], alts := [], laidByText := true, laidKinds := [.data, .data], laidTests := true, laidLooks := .later }
def FnExactRingEfficiencyCardSaid : Prop := Claim7.holds Tryd.pinned (.plain (OpenSpec.ofChange fnExactRingEfficiencySpec)) fnExactRingEfficiencyCard

/-- THE TIED CARD OF 'laws.FnExactRingCapacity'. -/
def fnExactRingCapacityCard : Claim7 := { stood := { row := fnExactRingCapacityRow, standIns := [], harness := (true, "fafddb0768df4f9ae8af660c0e0f9e50e48e912d7ac9a45c0315271b2e0844f4"), looks := false }, kinds := [], alts := [], laidByText := true, laidKinds := [.data, .data], laidTests := true, laidLooks := .later }
def FnExactRingCapacityCardSaid : Prop := Claim7.holds Tryd.pinned (.plain (OpenSpec.ofChange fnExactRingCapacitySpec)) fnExactRingCapacityCard

/-- THE TIED CARD OF 'laws.FnExactServiceMasks'. -/
def fnExactServiceMasksCard : Claim7 := { stood := { row := fnExactServiceMasksRow, standIns := [], harness := (true, "fafddb0768df4f9ae8af660c0e0f9e50e48e912d7ac9a45c0315271b2e0844f4"), looks := false }, kinds := [], alts := [], laidByText := true, laidKinds := [.data, .data], laidTests := true, laidLooks := .later }
def FnExactServiceMasksCardSaid : Prop := Claim7.holds Tryd.pinned (.plain (OpenSpec.ofChange fnExactServiceMasksSpec)) fnExactServiceMasksCard

/-- THE SECOND FORM's CARD OF 'laws.FnExactProtectedFibers'. -/
def fnExactProtectedFibersUptoCard : Claim7 := { stood := { row := fnExactProtectedFibersUptoRow, standIns := [], harness := (true, "fafddb0768df4f9ae8af660c0e0f9e50e48e912d7ac9a45c0315271b2e0844f4"), looks := false }, kinds := [], alts := [], laidByText := true, laidKinds := [.data, .data], laidTests := true, laidLooks := .later }
def FnExactProtectedFibersUptoCardSaid : Prop := Claim7.holds Tryd.pinned (.plain (OpenSpec.upto fnExactProtectedFibersSpec)) fnExactProtectedFibersUptoCard

/-- THE SECOND FORM's CARD OF 'laws.FnExactRingEfficiency'. -/
def fnExactRingEfficiencyUptoCard : Claim7 := { stood := { row := fnExactRingEfficiencyUptoRow, standIns := [], harness := (true, "fafddb0768df4f9ae8af660c0e0f9e50e48e912d7ac9a45c0315271b2e0844f4"), looks := false }, kinds := [], alts := [], laidByText := true, laidKinds := [.data, .data], laidTests := true, laidLooks := .later }
def FnExactRingEfficiencyUptoCardSaid : Prop := Claim7.holds Tryd.pinned (.plain (OpenSpec.upto fnExactRingEfficiencySpec)) fnExactRingEfficiencyUptoCard

/-- THE SECOND FORM's CARD OF 'laws.FnExactRingCapacity'. -/
def fnExactRingCapacityUptoCard : Claim7 := { stood := { row := fnExactRingCapacityUptoRow, standIns := [], harness := (true, "fafddb0768df4f9ae8af660c0e0f9e50e48e912d7ac9a45c0315271b2e0844f4"), looks := false }, kinds := [], alts := [], laidByText := true, laidKinds := [.data, .data], laidTests := true, laidLooks := .later }
def FnExactRingCapacityUptoCardSaid : Prop := Claim7.holds Tryd.pinned (.plain (OpenSpec.upto fnExactRingCapacitySpec)) fnExactRingCapacityUptoCard

/-- THE SECOND FORM's CARD OF 'laws.FnExactServiceMasks'. -/
def fnExactServiceMasksUptoCard : Claim7 := { stood := { row := fnExactServiceMasksUptoRow, standIns := [], harness := (true, "fafddb0768df4f9ae8af660c0e0f9e50e48e912d7ac9a45c0315271b2e0844f4"), looks := false }, kinds := [], alts := [], laidByText := true, laidKinds := [.data, .data], laidTests := true, laidLooks := .later }
def FnExactServiceMasksUptoCardSaid : Prop := Claim7.holds Tryd.pinned (.plain (OpenSpec.upto fnExactServiceMasksSpec)) fnExactServiceMasksUptoCard
end Rows
end Go.Proofs.YtkpendpjdemknaaDoor
