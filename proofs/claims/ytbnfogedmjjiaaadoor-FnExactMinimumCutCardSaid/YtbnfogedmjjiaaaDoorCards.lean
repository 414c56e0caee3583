/-
  DERIVED. GIVEN WITH THE SEED: THE CARDS: each row of YtbnfogedmjjiaaaDoorRows.lean that lists a variable, with what it lists TIED to the program's text (the seventh form; the later family's looks); each row that meets fmt, with fmt's text TOLD by the authors' own Lean function (tested against real Go, not proved from fmt's source: count such statements apart). THE CARD IS WHAT COUNTS. Prove the row's statement (the work); the ties are given (YtbnfogedmjjiaaaDoorTie.lean); close each card by the builder's one call (the guide's Derived/Test/ToyasCard.lean, 'card_holds'). Laid BY PROGRAM, IN A SANDBOX (cutbox-door.mjs). By AI agents, Wed Nov 11 2026. No macro, syntax, notation, axiom, sorry.
-/
import Derived.Test.YtbnfogedmjjiaaaDoorRows
import GoSem.ClaimSeven
namespace Go.Proofs.YtbnfogedmjjiaaaDoor
namespace Rows

/-- THE TIED CARD OF 'laws.FnExactCliqueBound'. -/
def fnExactCliqueBoundCard : Claim7 := { stood := { row := fnExactCliqueBoundRow, standIns := [], harness := (true, "61d0f1cdfe28942df9ffd20e4d988caf558a7c422a12daeac7c36534f8970d12"), looks := false }, kinds := [], alts := [], laidByText := true, laidKinds := [.data, .data], laidTests := true, laidLooks := .later }
def FnExactCliqueBoundCardSaid : Prop := Claim7.holds Tryd.pinned (.plain (OpenSpec.ofChange fnExactCliqueBoundSpec)) fnExactCliqueBoundCard

/-- THE TIED CARD OF 'laws.FnExactOptimalityGap'. -/
def fnExactOptimalityGapCard : Claim7 := { stood := { row := fnExactOptimalityGapRow, standIns := [], harness := (true, "61d0f1cdfe28942df9ffd20e4d988caf558a7c422a12daeac7c36534f8970d12"), looks := false }, kinds := [], alts := [], laidByText := true, laidKinds := [.data, .data], laidTests := true, laidLooks := .later }
def FnExactOptimalityGapCardSaid : Prop := Claim7.holds Tryd.pinned (.plain (OpenSpec.ofChange fnExactOptimalityGapSpec)) fnExactOptimalityGapCard

/-- THE TIED CARD OF 'laws.FnExactRouteAvailability'. -/
def fnExactRouteAvailabilityCard : Claim7 := { stood := { row := fnExactRouteAvailabilityRow, standIns := [], harness := (true, "61d0f1cdfe28942df9ffd20e4d988caf558a7c422a12daeac7c36534f8970d12"), looks := false }, kinds := [], alts := [], laidByText := true, laidKinds := [.data, .data], laidTests := true, laidLooks := .later }
def FnExactRouteAvailabilityCardSaid : Prop := Claim7.holds Tryd.pinned (.plain (OpenSpec.ofChange fnExactRouteAvailabilitySpec)) fnExactRouteAvailabilityCard

/-- THE TIED CARD OF 'laws.FnExactPairAvailability'. -/
def fnExactPairAvailabilityCard : Claim7 := { stood := { row := fnExactPairAvailabilityRow, standIns := [], harness := (true, "61d0f1cdfe28942df9ffd20e4d988caf558a7c422a12daeac7c36534f8970d12"), looks := false }, kinds := [], alts := [], laidByText := true, laidKinds := [.data, .data], laidTests := true, laidLooks := .later }
def FnExactPairAvailabilityCardSaid : Prop := Claim7.holds Tryd.pinned (.plain (OpenSpec.ofChange fnExactPairAvailabilitySpec)) fnExactPairAvailabilityCard

/-- THE TIED CARD OF 'laws.FnExactConnectionAvailability'. -/
def fnExactConnectionAvailabilityCard : Claim7 := { stood := { row := fnExactConnectionAvailabilityRow, standIns := [], harness := (true, "61d0f1cdfe28942df9ffd20e4d988caf558a7c422a12daeac7c36534f8970d12"), looks := false }, kinds := [], alts := [], laidByText := true, laidKinds := [.data, .data], laidTests := true, laidLooks := .later }
def FnExactConnectionAvailabilityCardSaid : Prop := Claim7.holds Tryd.pinned (.plain (OpenSpec.ofChange fnExactConnectionAvailabilitySpec)) fnExactConnectionAvailabilityCard

/-- THE TIED CARD OF 'laws.FnExactNetworkAvailability'. -/
def fnExactNetworkAvailabilityCard : Claim7 := { stood := { row := fnExactNetworkAvailabilityRow, standIns := [], harness := (true, "61d0f1cdfe28942df9ffd20e4d988caf558a7c422a12daeac7c36534f8970d12"), looks := false }, kinds := [], alts := [], laidByText := true, laidKinds := [.data, .data], laidTests := true, laidLooks := .later }
def FnExactNetworkAvailabilityCardSaid : Prop := Claim7.holds Tryd.pinned (.plain (OpenSpec.ofChange fnExactNetworkAvailabilitySpec)) fnExactNetworkAvailabilityCard

/-- THE TIED CARD OF 'laws.FnExactGroupImportance'. -/
def fnExactGroupImportanceCard : Claim7 := { stood := { row := fnExactGroupImportanceRow, standIns := [], harness := (true, "61d0f1cdfe28942df9ffd20e4d988caf558a7c422a12daeac7c36534f8970d12"), looks := false }, kinds := [], alts := [], laidByText := true, laidKinds := [.data, .data], laidTests := true, laidLooks := .later }
def FnExactGroupImportanceCardSaid : Prop := Claim7.holds Tryd.pinned (.plain (OpenSpec.ofChange fnExactGroupImportanceSpec)) fnExactGroupImportanceCard

/-- THE TIED CARD OF 'laws.FnExactLowestFirst'. -/
def fnExactLowestFirstCard : Claim7 := { stood := { row := fnExactLowestFirstRow, standIns := [], harness := (true, "61d0f1cdfe28942df9ffd20e4d988caf558a7c422a12daeac7c36534f8970d12"), looks := false }, kinds := [], alts := [], laidByText := true, laidKinds := [.data, .data], laidTests := true, laidLooks := .later }
def FnExactLowestFirstCardSaid : Prop := Claim7.holds Tryd.pinned (.plain (OpenSpec.ofChange fnExactLowestFirstSpec)) fnExactLowestFirstCard

/-- THE TIED CARD OF 'laws.FnExactLightsHit'. -/
def fnExactLightsHitCard : Claim7 := { stood := { row := fnExactLightsHitRow, standIns := [], harness := (true, "61d0f1cdfe28942df9ffd20e4d988caf558a7c422a12daeac7c36534f8970d12"), looks := false }, kinds := [], alts := [], laidByText := true, laidKinds := [.data, .data], laidTests := true, laidLooks := .later }
def FnExactLightsHitCardSaid : Prop := Claim7.holds Tryd.pinned (.plain (OpenSpec.ofChange fnExactLightsHitSpec)) fnExactLightsHitCard

/-- THE TIED CARD OF 'laws.FnExactDistinguishingLight'. -/
def fnExactDistinguishingLightCard : Claim7 := { stood := { row := fnExactDistinguishingLightRow, standIns := [], harness := (true, "61d0f1cdfe28942df9ffd20e4d988caf558a7c422a12daeac7c36534f8970d12"), looks := false }, kinds := [], alts := [], laidByText := true, laidKinds := [.data, .data], laidTests := true, laidLooks := .later }
def FnExactDistinguishingLightCardSaid : Prop := Claim7.holds Tryd.pinned (.plain (OpenSpec.ofChange fnExactDistinguishingLightSpec)) fnExactDistinguishingLightCard

/-- THE TIED CARD OF 'laws.FnExactSharedFibers'. -/
def fnExactSharedFibersCard : Claim7 := { stood := { row := fnExactSharedFibersRow, standIns := [], harness := (true, "61d0f1cdfe28942df9ffd20e4d988caf558a7c422a12daeac7c36534f8970d12"), looks := false }, kinds := [], alts := [], laidByText := true, laidKinds := [.data, .data], laidTests := true, laidLooks := .later }
def FnExactSharedFibersCardSaid : Prop := Claim7.holds Tryd.pinned (.plain (OpenSpec.ofChange fnExactSharedFibersSpec)) fnExactSharedFibersCard

/-- THE TIED CARD OF 'laws.FnExactComponentsOf'. -/
def fnExactComponentsOfCard : Claim7 := { stood := { row := fnExactComponentsOfRow, standIns := [], harness := (true, "61d0f1cdfe28942df9ffd20e4d988caf558a7c422a12daeac7c36534f8970d12"), looks := false }, kinds := [], alts := [], laidByText := true, laidKinds := [.data, .data], laidTests := true, laidLooks := .later }
def FnExactComponentsOfCardSaid : Prop := Claim7.holds Tryd.pinned (.plain (OpenSpec.ofChange fnExactComponentsOfSpec)) fnExactComponentsOfCard

/-- THE TIED CARD OF 'laws.FnExactMinimumCut'. -/
def fnExactMinimumCutCard : Claim7 := { stood := { row := fnExactMinimumCutRow, standIns := [], harness := (true, "61d0f1cdfe28942df9ffd20e4d988caf558a7c422a12daeac7c36534f8970d12"), looks := false }, kinds := [], alts := [], laidByText := true, laidKinds := [.data, .data], laidTests := true, laidLooks := .later }
def FnExactMinimumCutCardSaid : Prop := Claim7.holds Tryd.pinned (.plain (OpenSpec.ofChange fnExactMinimumCutSpec)) fnExactMinimumCutCard

/-- THE TIED CARD OF 'laws.FnExactGroupCut'. -/
def fnExactGroupCutCard : Claim7 := { stood := { row := fnExactGroupCutRow, standIns := [], harness := (true, "61d0f1cdfe28942df9ffd20e4d988caf558a7c422a12daeac7c36534f8970d12"), looks := false }, kinds := [], alts := [], laidByText := true, laidKinds := [.data, .data], laidTests := true, laidLooks := .later }
def FnExactGroupCutCardSaid : Prop := Claim7.holds Tryd.pinned (.plain (OpenSpec.ofChange fnExactGroupCutSpec)) fnExactGroupCutCard

/-- THE SECOND FORM's CARD OF 'laws.FnExactCliqueBound'. -/
def fnExactCliqueBoundUptoCard : Claim7 := { stood := { row := fnExactCliqueBoundUptoRow, standIns := [], harness := (true, "61d0f1cdfe28942df9ffd20e4d988caf558a7c422a12daeac7c36534f8970d12"), looks := false }, kinds := [], alts := [], laidByText := true, laidKinds := [.data, .data], laidTests := true, laidLooks := .later }
def FnExactCliqueBoundUptoCardSaid : Prop := Claim7.holds Tryd.pinned (.plain (OpenSpec.upto fnExactCliqueBoundSpec)) fnExactCliqueBoundUptoCard

/-- THE SECOND FORM's CARD OF 'laws.FnExactOptimalityGap'. -/
def fnExactOptimalityGapUptoCard : Claim7 := { stood := { row := fnExactOptimalityGapUptoRow, standIns := [], harness := (true, "61d0f1cdfe28942df9ffd20e4d988caf558a7c422a12daeac7c36534f8970d12"), looks := false }, kinds := [], alts := [], laidByText := true, laidKinds := [.data, .data], laidTests := true, laidLooks := .later }
def FnExactOptimalityGapUptoCardSaid : Prop := Claim7.holds Tryd.pinned (.plain (OpenSpec.upto fnExactOptimalityGapSpec)) fnExactOptimalityGapUptoCard

/-- THE SECOND FORM's CARD OF 'laws.FnExactRouteAvailability'. -/
def fnExactRouteAvailabilityUptoCard : Claim7 := { stood := { row := fnExactRouteAvailabilityUptoRow, standIns := [], harness := (true, "61d0f1cdfe28942df9ffd20e4d988caf558a7c422a12daeac7c36534f8970d12"), looks := false }, kinds := [], alts := [], laidByText := true, laidKinds := [.data, .data], laidTests := true, laidLooks := .later }
def FnExactRouteAvailabilityUptoCardSaid : Prop := Claim7.holds Tryd.pinned (.plain (OpenSpec.upto fnExactRouteAvailabilitySpec)) fnExactRouteAvailabilityUptoCard

/-- THE SECOND FORM's CARD OF 'laws.FnExactPairAvailability'. -/
def fnExactPairAvailabilityUptoCard : Claim7 := { stood := { row := fnExactPairAvailabilityUptoRow, standIns := [], harness := (true, "61d0f1cdfe28942df9ffd20e4d988caf558a7c422a12daeac7c36534f8970d12"), looks := false }, kinds := [], alts := [], laidByText := true, laidKinds := [.data, .data], laidTests := true, laidLooks := .later }
def FnExactPairAvailabilityUptoCardSaid : Prop := Claim7.holds Tryd.pinned (.plain (OpenSpec.upto fnExactPairAvailabilitySpec)) fnExactPairAvailabilityUptoCard

/-- THE SECOND FORM's CARD OF 'laws.FnExactConnectionAvailability'. -/
def fnExactConnectionAvailabilityUptoCard : Claim7 := { stood := { row := fnExactConnectionAvailabilityUptoRow, standIns := [], harness := (true, "61d0f1cdfe28942df9ffd20e4d988caf558a7c422a12daeac7c36534f8970d12"), looks := false }, kinds := [], alts := [], laidByText := true, laidKinds := [.data, .data], laidTests := true, laidLooks := .later }
def FnExactConnectionAvailabilityUptoCardSaid : Prop := Claim7.holds Tryd.pinned (.plain (OpenSpec.upto fnExactConnectionAvailabilitySpec)) fnExactConnectionAvailabilityUptoCard

/-- THE SECOND FORM's CARD OF 'laws.FnExactNetworkAvailability'. -/
def fnExactNetworkAvailabilityUptoCard : Claim7 := { stood := { row := fnExactNetworkAvailabilityUptoRow, standIns := [], harness := (true, "61d0f1cdfe28942df9ffd20e4d988caf558a7c422a12daeac7c36534f8970d12"), looks := false }, kinds := [], alts := [], laidByText := true, laidKinds := [.data, .data], laidTests := true, laidLooks := .later }
def FnExactNetworkAvailabilityUptoCardSaid : Prop := Claim7.holds Tryd.pinned (.plain (OpenSpec.upto fnExactNetworkAvailabilitySpec)) fnExactNetworkAvailabilityUptoCard

/-- THE SECOND FORM's CARD OF 'laws.FnExactGroupImportance'. -/
def fnExactGroupImportanceUptoCard : Claim7 := { stood := { row := fnExactGroupImportanceUptoRow, standIns := [], harness := (true, "61d0f1cdfe28942df9ffd20e4d988caf558a7c422a12daeac7c36534f8970d12"), looks := false }, kinds := [], alts := [], laidByText := true, laidKinds := [.data, .data], laidTests := true, laidLooks := .later }
def FnExactGroupImportanceUptoCardSaid : Prop := Claim7.holds Tryd.pinned (.plain (OpenSpec.upto fnExactGroupImportanceSpec)) fnExactGroupImportanceUptoCard

/-- THE SECOND FORM's CARD OF 'laws.FnExactLowestFirst'. -/
def fnExactLowestFirstUptoCard : Claim7 := { stood := { row := fnExactLowestFirstUptoRow, standIns := [], harness := (true, "61d0f1cdfe28942df9ffd20e4d988caf558a7c422a12daeac7c36534f8970d12"), looks := false }, kinds := [], alts := [], laidByText := true, laidKinds := [.data, .data], laidTests := true, laidLooks := .later }
def FnExactLowestFirstUptoCardSaid : Prop := Claim7.holds Tryd.pinned (.plain (OpenSpec.upto fnExactLowestFirstSpec)) fnExactLowestFirstUptoCard

/-- THE SECOND FORM's CARD OF 'laws.FnExactLightsHit'. -/
def fnExactLightsHitUptoCard : Claim7 := { stood := { row := fnExactLightsHitUptoRow, standIns := [], harness := (true, "61d0f1cdfe28942df9ffd20e4d988caf558a7c422a12daeac7c36534f8970d12"), looks := false }, kinds := [], alts := [], laidByText := true, laidKinds := [.data, .data], laidTests := true, laidLooks := .later }
def FnExactLightsHitUptoCardSaid : Prop := Claim7.holds Tryd.pinned (.plain (OpenSpec.upto fnExactLightsHitSpec)) fnExactLightsHitUptoCard

/-- THE SECOND FORM's CARD OF 'laws.FnExactDistinguishingLight'. -/
def fnExactDistinguishingLightUptoCard : Claim7 := { stood := { row := fnExactDistinguishingLightUptoRow, standIns := [], harness := (true, "61d0f1cdfe28942df9ffd20e4d988caf558a7c422a12daeac7c36534f8970d12"), looks := false }, kinds := [], alts := [], laidByText := true, laidKinds := [.data, .data], laidTests := true, laidLooks := .later }
def FnExactDistinguishingLightUptoCardSaid : Prop := Claim7.holds Tryd.pinned (.plain (OpenSpec.upto fnExactDistinguishingLightSpec)) fnExactDistinguishingLightUptoCard

/-- THE SECOND FORM's CARD OF 'laws.FnExactSharedFibers'. -/
def fnExactSharedFibersUptoCard : Claim7 := { stood := { row := fnExactSharedFibersUptoRow, standIns := [], harness := (true, "61d0f1cdfe28942df9ffd20e4d988caf558a7c422a12daeac7c36534f8970d12"), looks := false }, kinds := [], alts := [], laidByText := true, laidKinds := [.data, .data], laidTests := true, laidLooks := .later }
def FnExactSharedFibersUptoCardSaid : Prop := Claim7.holds Tryd.pinned (.plain (OpenSpec.upto fnExactSharedFibersSpec)) fnExactSharedFibersUptoCard

/-- THE SECOND FORM's CARD OF 'laws.FnExactComponentsOf'. -/
def fnExactComponentsOfUptoCard : Claim7 := { stood := { row := fnExactComponentsOfUptoRow, standIns := [], harness := (true, "61d0f1cdfe28942df9ffd20e4d988caf558a7c422a12daeac7c36534f8970d12"), looks := false }, kinds := [], alts := [], laidByText := true, laidKinds := [.data, .data], laidTests := true, laidLooks := .later }
def FnExactComponentsOfUptoCardSaid : Prop := Claim7.holds Tryd.pinned (.plain (OpenSpec.upto fnExactComponentsOfSpec)) fnExactComponentsOfUptoCard

/-- THE SECOND FORM's CARD OF 'laws.FnExactMinimumCut'. -/
def fnExactMinimumCutUptoCard : Claim7 := { stood := { row := fnExactMinimumCutUptoRow, standIns := [], harness := (true, "61d0f1cdfe28942df9ffd20e4d988caf558a7c422a12daeac7c36534f8970d12"), looks := false }, kinds := [], alts := [], laidByText := true, laidKinds := [.data, .data], laidTests := true, laidLooks := .later }
def FnExactMinimumCutUptoCardSaid : Prop := Claim7.holds Tryd.pinned (.plain (OpenSpec.upto fnExactMinimumCutSpec)) fnExactMinimumCutUptoCard

/-- THE SECOND FORM's CARD OF 'laws.FnExactGroupCut'. -/
def fnExactGroupCutUptoCard : Claim7 := { stood := { row := fnExactGroupCutUptoRow, standIns := [], harness := (true, "61d0f1cdfe28942df9ffd20e4d988caf558a7c422a12daeac7c36534f8970d12"), looks := false }, kinds := [], alts := [], laidByText := true, laidKinds := [.data, .data], laidTests := true, laidLooks := .later }
def FnExactGroupCutUptoCardSaid : Prop := Claim7.holds Tryd.pinned (.plain (OpenSpec.upto fnExactGroupCutSpec)) fnExactGroupCutUptoCard
end Rows
end Go.Proofs.YtbnfogedmjjiaaaDoor
