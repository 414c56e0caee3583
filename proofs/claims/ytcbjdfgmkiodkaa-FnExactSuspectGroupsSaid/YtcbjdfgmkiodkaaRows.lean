/-
  No cell of these rows narrows 'for every input' (looked for: loops, veiled, ifaces, maps, wideKeys, modest, calm, conditions, laid).
  DERIVED. THE GIVEN ROWS OF THIS SEAT. 22 by the template 'for every input the law returns true; each argument reads behind the call as it read before'; 0 by the template 'total and deterministic' (their statements: YtcbjdfgmkiodkaaTotals.lean).
  GIVEN WITH THE SEED: the statements are not yours to turn. If you find one false, say at which input.
  Laid BY PROGRAM, IN A SANDBOX (cutbox-rows.mjs): the forced cells as the released guide's own fill.sh prints them over the translation b7cd03b478e70e5a… (all of the seat's roots in one cut). By AI agents, Wed Nov 11 2026. No macro, syntax, notation, axiom, sorry.
-/
import Derived.Test.YtcbjdfgmkiodkaaChecked
import GoSem.Claim
import GoSem.ClaimJoined
import GoSem.ClaimMapViews
import Derived.JoinedTies
import Derived.KernelRfl
namespace Go.Proofs.Ytcbjdfgmkiodkaa
/- THE CELL 'sum', in the pinned program and in every row, IS THE sha256 OF THE DUMP (.gsa) THAT YtcbjdfgmkiodkaaProg.lean LOADS. Nothing in Lean hashes anything: it is a label: what it is worth is what the hold of that sum in a sandbox is worth. -/
noncomputable def Try.pinned : Pinned := { name := "ytcbjdfgmkiodkaa", sum := "b7cd03b478e70e5a7cce75b5c3729495a2af0a53f0c3ea2f30eea3e6881fb405", checked := Try.checked }
namespace Rows
def none {H : Type} : Left H := { results := [], args := [] }

/-- 'laws.FnExactRiskGroups': WHATEVER THE INPUT: true; the input reads as it did. -/
def fnExactRiskGroupsSpec : ChangeSpec := { name := "fnExactRiskGroups", fn := fun _ => fun
  | [d] => { results := [.lit (.bool true)], args := [d] }
  | _ => none }
def fnExactRiskGroupsRow : OpenClaim := { program := "ytcbjdfgmkiodkaa", sum := "b7cd03b478e70e5a7cce75b5c3729495a2af0a53f0c3ea2f30eea3e6881fb405", func := "loop.example/g00897/laws.FnExactRiskGroups", spec := "fnExactRiskGroups", apart := false }
def FnExactRiskGroupsSaid : Prop := fnExactRiskGroupsRow.holds Try.pinned (OpenSpec.ofChange fnExactRiskGroupsSpec)

/-- ITS FALSE NEIGHBOUR: 'it returns false'. Refute it at one input. -/
def fnExactRiskGroupsWrong : ChangeSpec := { name := "fnExactRiskGroups", fn := fun _ => fun
  | [d] => { results := [.lit (.bool false)], args := [d] }
  | _ => none }
def FnExactRiskGroupsWrongFalsely : Prop := fnExactRiskGroupsRow.holds Try.pinned (OpenSpec.ofChange fnExactRiskGroupsWrong)

/-- 'laws.FnExactRiskDisjoint': WHATEVER THE INPUT: true; the input reads as it did. -/
def fnExactRiskDisjointSpec : ChangeSpec := { name := "fnExactRiskDisjoint", fn := fun _ => fun
  | [d1, d2, d3] => { results := [.lit (.bool true)], args := [d1, d2, d3] }
  | _ => none }
def fnExactRiskDisjointRow : OpenClaim := { program := "ytcbjdfgmkiodkaa", sum := "b7cd03b478e70e5a7cce75b5c3729495a2af0a53f0c3ea2f30eea3e6881fb405", func := "loop.example/g00897/laws.FnExactRiskDisjoint", spec := "fnExactRiskDisjoint", apart := false }
def FnExactRiskDisjointSaid : Prop := fnExactRiskDisjointRow.holds Try.pinned (OpenSpec.ofChange fnExactRiskDisjointSpec)

/-- ITS FALSE NEIGHBOUR: 'it returns false'. Refute it at one input. -/
def fnExactRiskDisjointWrong : ChangeSpec := { name := "fnExactRiskDisjoint", fn := fun _ => fun
  | [d1, d2, d3] => { results := [.lit (.bool false)], args := [d1, d2, d3] }
  | _ => none }
def FnExactRiskDisjointWrongFalsely : Prop := fnExactRiskDisjointRow.holds Try.pinned (OpenSpec.ofChange fnExactRiskDisjointWrong)

/-- 'laws.FnExactCommonRisks': WHATEVER THE INPUT: true; the input reads as it did. -/
def fnExactCommonRisksSpec : ChangeSpec := { name := "fnExactCommonRisks", fn := fun _ => fun
  | [d1, d2, d3] => { results := [.lit (.bool true)], args := [d1, d2, d3] }
  | _ => none }
def fnExactCommonRisksRow : OpenClaim := { program := "ytcbjdfgmkiodkaa", sum := "b7cd03b478e70e5a7cce75b5c3729495a2af0a53f0c3ea2f30eea3e6881fb405", func := "loop.example/g00897/laws.FnExactCommonRisks", spec := "fnExactCommonRisks", apart := false }
def FnExactCommonRisksSaid : Prop := fnExactCommonRisksRow.holds Try.pinned (OpenSpec.ofChange fnExactCommonRisksSpec)

/-- ITS FALSE NEIGHBOUR: 'it returns false'. Refute it at one input. -/
def fnExactCommonRisksWrong : ChangeSpec := { name := "fnExactCommonRisks", fn := fun _ => fun
  | [d1, d2, d3] => { results := [.lit (.bool false)], args := [d1, d2, d3] }
  | _ => none }
def FnExactCommonRisksWrongFalsely : Prop := fnExactCommonRisksRow.holds Try.pinned (OpenSpec.ofChange fnExactCommonRisksWrong)

/-- 'laws.FnExactIsValidOutage': WHATEVER THE INPUT: true; the input reads as it did. -/
def fnExactIsValidOutageSpec : ChangeSpec := { name := "fnExactIsValidOutage", fn := fun _ => fun
  | [d1, d2] => { results := [.lit (.bool true)], args := [d1, d2] }
  | _ => none }
def fnExactIsValidOutageRow : OpenClaim := { program := "ytcbjdfgmkiodkaa", sum := "b7cd03b478e70e5a7cce75b5c3729495a2af0a53f0c3ea2f30eea3e6881fb405", func := "loop.example/g00897/laws.FnExactIsValidOutage", spec := "fnExactIsValidOutage", apart := false }
def FnExactIsValidOutageSaid : Prop := fnExactIsValidOutageRow.holds Try.pinned (OpenSpec.ofChange fnExactIsValidOutageSpec)

/-- ITS FALSE NEIGHBOUR: 'it returns false'. Refute it at one input. -/
def fnExactIsValidOutageWrong : ChangeSpec := { name := "fnExactIsValidOutage", fn := fun _ => fun
  | [d1, d2] => { results := [.lit (.bool false)], args := [d1, d2] }
  | _ => none }
def FnExactIsValidOutageWrongFalsely : Prop := fnExactIsValidOutageRow.holds Try.pinned (OpenSpec.ofChange fnExactIsValidOutageWrong)

/-- 'laws.FnExactStateWeight': WHATEVER THE INPUT: true; the input reads as it did. -/
def fnExactStateWeightSpec : ChangeSpec := { name := "fnExactStateWeight", fn := fun _ => fun
  | [d1, d2, d3] => { results := [.lit (.bool true)], args := [d1, d2, d3] }
  | _ => none }
def fnExactStateWeightRow : OpenClaim := { program := "ytcbjdfgmkiodkaa", sum := "b7cd03b478e70e5a7cce75b5c3729495a2af0a53f0c3ea2f30eea3e6881fb405", func := "loop.example/g00897/laws.FnExactStateWeight", spec := "fnExactStateWeight", apart := false }
def FnExactStateWeightSaid : Prop := fnExactStateWeightRow.holds Try.pinned (OpenSpec.ofChange fnExactStateWeightSpec)

/-- ITS FALSE NEIGHBOUR: 'it returns false'. Refute it at one input. -/
def fnExactStateWeightWrong : ChangeSpec := { name := "fnExactStateWeight", fn := fun _ => fun
  | [d1, d2, d3] => { results := [.lit (.bool false)], args := [d1, d2, d3] }
  | _ => none }
def FnExactStateWeightWrongFalsely : Prop := fnExactStateWeightRow.holds Try.pinned (OpenSpec.ofChange fnExactStateWeightWrong)

/-- 'laws.FnExactMeetsTarget': WHATEVER THE INPUT: true; the input reads as it did. -/
def fnExactMeetsTargetSpec : ChangeSpec := { name := "fnExactMeetsTarget", fn := fun _ => fun
  | [d1, d2, d3, d4, d5] => { results := [.lit (.bool true)], args := [d1, d2, d3, d4, d5] }
  | _ => none }
def fnExactMeetsTargetRow : OpenClaim := { program := "ytcbjdfgmkiodkaa", sum := "b7cd03b478e70e5a7cce75b5c3729495a2af0a53f0c3ea2f30eea3e6881fb405", func := "loop.example/g00897/laws.FnExactMeetsTarget", spec := "fnExactMeetsTarget", apart := false }
def FnExactMeetsTargetSaid : Prop := fnExactMeetsTargetRow.holds Try.pinned (OpenSpec.ofChange fnExactMeetsTargetSpec)

/-- ITS FALSE NEIGHBOUR: 'it returns false'. Refute it at one input. -/
def fnExactMeetsTargetWrong : ChangeSpec := { name := "fnExactMeetsTarget", fn := fun _ => fun
  | [d1, d2, d3, d4, d5] => { results := [.lit (.bool false)], args := [d1, d2, d3, d4, d5] }
  | _ => none }
def FnExactMeetsTargetWrongFalsely : Prop := fnExactMeetsTargetRow.holds Try.pinned (OpenSpec.ofChange fnExactMeetsTargetWrong)

/-- 'laws.FnExactCriticalGroups': WHATEVER THE INPUT: true; the input reads as it did. -/
def fnExactCriticalGroupsSpec : ChangeSpec := { name := "fnExactCriticalGroups", fn := fun _ => fun
  | [d] => { results := [.lit (.bool true)], args := [d] }
  | _ => none }
def fnExactCriticalGroupsRow : OpenClaim := { program := "ytcbjdfgmkiodkaa", sum := "b7cd03b478e70e5a7cce75b5c3729495a2af0a53f0c3ea2f30eea3e6881fb405", func := "loop.example/g00897/laws.FnExactCriticalGroups", spec := "fnExactCriticalGroups", apart := false }
def FnExactCriticalGroupsSaid : Prop := fnExactCriticalGroupsRow.holds Try.pinned (OpenSpec.ofChange fnExactCriticalGroupsSpec)

/-- ITS FALSE NEIGHBOUR: 'it returns false'. Refute it at one input. -/
def fnExactCriticalGroupsWrong : ChangeSpec := { name := "fnExactCriticalGroups", fn := fun _ => fun
  | [d] => { results := [.lit (.bool false)], args := [d] }
  | _ => none }
def FnExactCriticalGroupsWrongFalsely : Prop := fnExactCriticalGroupsRow.holds Try.pinned (OpenSpec.ofChange fnExactCriticalGroupsWrong)

/-- 'laws.FnExactBridges': WHATEVER THE INPUT: true; the input reads as it did. -/
def fnExactBridgesSpec : ChangeSpec := { name := "fnExactBridges", fn := fun _ => fun
  | [d] => { results := [.lit (.bool true)], args := [d] }
  | _ => none }
def fnExactBridgesRow : OpenClaim := { program := "ytcbjdfgmkiodkaa", sum := "b7cd03b478e70e5a7cce75b5c3729495a2af0a53f0c3ea2f30eea3e6881fb405", func := "loop.example/g00897/laws.FnExactBridges", spec := "fnExactBridges", apart := false }
def FnExactBridgesSaid : Prop := fnExactBridgesRow.holds Try.pinned (OpenSpec.ofChange fnExactBridgesSpec)

/-- ITS FALSE NEIGHBOUR: 'it returns false'. Refute it at one input. -/
def fnExactBridgesWrong : ChangeSpec := { name := "fnExactBridges", fn := fun _ => fun
  | [d] => { results := [.lit (.bool false)], args := [d] }
  | _ => none }
def FnExactBridgesWrongFalsely : Prop := fnExactBridgesRow.holds Try.pinned (OpenSpec.ofChange fnExactBridgesWrong)

/-- 'laws.FnExactCutNodes': WHATEVER THE INPUT: true; the input reads as it did. -/
def fnExactCutNodesSpec : ChangeSpec := { name := "fnExactCutNodes", fn := fun _ => fun
  | [d] => { results := [.lit (.bool true)], args := [d] }
  | _ => none }
def fnExactCutNodesRow : OpenClaim := { program := "ytcbjdfgmkiodkaa", sum := "b7cd03b478e70e5a7cce75b5c3729495a2af0a53f0c3ea2f30eea3e6881fb405", func := "loop.example/g00897/laws.FnExactCutNodes", spec := "fnExactCutNodes", apart := false }
def FnExactCutNodesSaid : Prop := fnExactCutNodesRow.holds Try.pinned (OpenSpec.ofChange fnExactCutNodesSpec)

/-- ITS FALSE NEIGHBOUR: 'it returns false'. Refute it at one input. -/
def fnExactCutNodesWrong : ChangeSpec := { name := "fnExactCutNodes", fn := fun _ => fun
  | [d] => { results := [.lit (.bool false)], args := [d] }
  | _ => none }
def FnExactCutNodesWrongFalsely : Prop := fnExactCutNodesRow.holds Try.pinned (OpenSpec.ofChange fnExactCutNodesWrong)

/-- 'laws.FnExactSuspectGroups': WHATEVER THE INPUT: true; the input reads as it did. -/
def fnExactSuspectGroupsSpec : ChangeSpec := { name := "fnExactSuspectGroups", fn := fun _ => fun
  | [d1, d2] => { results := [.lit (.bool true)], args := [d1, d2] }
  | _ => none }
def fnExactSuspectGroupsRow : OpenClaim := { program := "ytcbjdfgmkiodkaa", sum := "b7cd03b478e70e5a7cce75b5c3729495a2af0a53f0c3ea2f30eea3e6881fb405", func := "loop.example/g00897/laws.FnExactSuspectGroups", spec := "fnExactSuspectGroups", unfollowed := true, recurses := true, apart := false }
def FnExactSuspectGroupsSaid : Prop := fnExactSuspectGroupsRow.holds Try.pinned (OpenSpec.ofChange fnExactSuspectGroupsSpec)

/-- ITS FALSE NEIGHBOUR: 'it returns false'. Refute it at one input. -/
def fnExactSuspectGroupsWrong : ChangeSpec := { name := "fnExactSuspectGroups", fn := fun _ => fun
  | [d1, d2] => { results := [.lit (.bool false)], args := [d1, d2] }
  | _ => none }
def FnExactSuspectGroupsWrongFalsely : Prop := fnExactSuspectGroupsRow.holds Try.pinned (OpenSpec.ofChange fnExactSuspectGroupsWrong)

/-- 'laws.FnExactIsExplanation': WHATEVER THE INPUT: true; the input reads as it did. -/
def fnExactIsExplanationSpec : ChangeSpec := { name := "fnExactIsExplanation", fn := fun _ => fun
  | [d1, d2, d3] => { results := [.lit (.bool true)], args := [d1, d2, d3] }
  | _ => none }
def fnExactIsExplanationRow : OpenClaim := { program := "ytcbjdfgmkiodkaa", sum := "b7cd03b478e70e5a7cce75b5c3729495a2af0a53f0c3ea2f30eea3e6881fb405", func := "loop.example/g00897/laws.FnExactIsExplanation", spec := "fnExactIsExplanation", unfollowed := true, recurses := true, apart := false }
def FnExactIsExplanationSaid : Prop := fnExactIsExplanationRow.holds Try.pinned (OpenSpec.ofChange fnExactIsExplanationSpec)

/-- ITS FALSE NEIGHBOUR: 'it returns false'. Refute it at one input. -/
def fnExactIsExplanationWrong : ChangeSpec := { name := "fnExactIsExplanation", fn := fun _ => fun
  | [d1, d2, d3] => { results := [.lit (.bool false)], args := [d1, d2, d3] }
  | _ => none }
def FnExactIsExplanationWrongFalsely : Prop := fnExactIsExplanationRow.holds Try.pinned (OpenSpec.ofChange fnExactIsExplanationWrong)

/-- 'laws.FnExactCheckAssignment': WHATEVER THE INPUT: true; the input reads as it did. -/
def fnExactCheckAssignmentSpec : ChangeSpec := { name := "fnExactCheckAssignment", fn := fun _ => fun
  | [d1, d2, d3] => { results := [.lit (.bool true)], args := [d1, d2, d3] }
  | _ => none }
def fnExactCheckAssignmentRow : OpenClaim := { program := "ytcbjdfgmkiodkaa", sum := "b7cd03b478e70e5a7cce75b5c3729495a2af0a53f0c3ea2f30eea3e6881fb405", func := "loop.example/g00897/laws.FnExactCheckAssignment", spec := "fnExactCheckAssignment", apart := false }
def FnExactCheckAssignmentSaid : Prop := fnExactCheckAssignmentRow.holds Try.pinned (OpenSpec.ofChange fnExactCheckAssignmentSpec)

/-- ITS FALSE NEIGHBOUR: 'it returns false'. Refute it at one input. -/
def fnExactCheckAssignmentWrong : ChangeSpec := { name := "fnExactCheckAssignment", fn := fun _ => fun
  | [d1, d2, d3] => { results := [.lit (.bool false)], args := [d1, d2, d3] }
  | _ => none }
def FnExactCheckAssignmentWrongFalsely : Prop := fnExactCheckAssignmentRow.holds Try.pinned (OpenSpec.ofChange fnExactCheckAssignmentWrong)

/-- 'laws.FnExactFiberBound': WHATEVER THE INPUT: true; the input reads as it did. -/
def fnExactFiberBoundSpec : ChangeSpec := { name := "fnExactFiberBound", fn := fun _ => fun
  | [d1, d2] => { results := [.lit (.bool true)], args := [d1, d2] }
  | _ => none }
def fnExactFiberBoundRow : OpenClaim := { program := "ytcbjdfgmkiodkaa", sum := "b7cd03b478e70e5a7cce75b5c3729495a2af0a53f0c3ea2f30eea3e6881fb405", func := "loop.example/g00897/laws.FnExactFiberBound", spec := "fnExactFiberBound", unfollowed := true, recurses := true, apart := false }
def FnExactFiberBoundSaid : Prop := fnExactFiberBoundRow.holds Try.pinned (OpenSpec.ofChange fnExactFiberBoundSpec)

/-- ITS FALSE NEIGHBOUR: 'it returns false'. Refute it at one input. -/
def fnExactFiberBoundWrong : ChangeSpec := { name := "fnExactFiberBound", fn := fun _ => fun
  | [d1, d2] => { results := [.lit (.bool false)], args := [d1, d2] }
  | _ => none }
def FnExactFiberBoundWrongFalsely : Prop := fnExactFiberBoundRow.holds Try.pinned (OpenSpec.ofChange fnExactFiberBoundWrong)

/-- 'laws.FnExactCollidingLights': WHATEVER THE INPUT: true; the input reads as it did. -/
def fnExactCollidingLightsSpec : ChangeSpec := { name := "fnExactCollidingLights", fn := fun _ => fun
  | [d1, d2] => { results := [.lit (.bool true)], args := [d1, d2] }
  | _ => none }
def fnExactCollidingLightsRow : OpenClaim := { program := "ytcbjdfgmkiodkaa", sum := "b7cd03b478e70e5a7cce75b5c3729495a2af0a53f0c3ea2f30eea3e6881fb405", func := "loop.example/g00897/laws.FnExactCollidingLights", spec := "fnExactCollidingLights", apart := false }
def FnExactCollidingLightsSaid : Prop := fnExactCollidingLightsRow.holds Try.pinned (OpenSpec.ofChange fnExactCollidingLightsSpec)

/-- ITS FALSE NEIGHBOUR: 'it returns false'. Refute it at one input. -/
def fnExactCollidingLightsWrong : ChangeSpec := { name := "fnExactCollidingLights", fn := fun _ => fun
  | [d1, d2] => { results := [.lit (.bool false)], args := [d1, d2] }
  | _ => none }
def FnExactCollidingLightsWrongFalsely : Prop := fnExactCollidingLightsRow.holds Try.pinned (OpenSpec.ofChange fnExactCollidingLightsWrong)

/-- 'laws.FnExactJoinRoutes': WHATEVER THE INPUT: true; the input reads as it did. -/
def fnExactJoinRoutesSpec : ChangeSpec := { name := "fnExactJoinRoutes", fn := fun _ => fun
  | [d1, d2, d3] => { results := [.lit (.bool true)], args := [d1, d2, d3] }
  | _ => none }
def fnExactJoinRoutesRow : OpenClaim := { program := "ytcbjdfgmkiodkaa", sum := "b7cd03b478e70e5a7cce75b5c3729495a2af0a53f0c3ea2f30eea3e6881fb405", func := "loop.example/g00897/laws.FnExactJoinRoutes", spec := "fnExactJoinRoutes", apart := false }
def FnExactJoinRoutesSaid : Prop := fnExactJoinRoutesRow.holds Try.pinned (OpenSpec.ofChange fnExactJoinRoutesSpec)

/-- ITS FALSE NEIGHBOUR: 'it returns false'. Refute it at one input. -/
def fnExactJoinRoutesWrong : ChangeSpec := { name := "fnExactJoinRoutes", fn := fun _ => fun
  | [d1, d2, d3] => { results := [.lit (.bool false)], args := [d1, d2, d3] }
  | _ => none }
def FnExactJoinRoutesWrongFalsely : Prop := fnExactJoinRoutesRow.holds Try.pinned (OpenSpec.ofChange fnExactJoinRoutesWrong)

/-- 'laws.FnExactIsRing': WHATEVER THE INPUT: true; the input reads as it did. -/
def fnExactIsRingSpec : ChangeSpec := { name := "fnExactIsRing", fn := fun _ => fun
  | [d1, d2] => { results := [.lit (.bool true)], args := [d1, d2] }
  | _ => none }
def fnExactIsRingRow : OpenClaim := { program := "ytcbjdfgmkiodkaa", sum := "b7cd03b478e70e5a7cce75b5c3729495a2af0a53f0c3ea2f30eea3e6881fb405", func := "loop.example/g00897/laws.FnExactIsRing", spec := "fnExactIsRing", apart := false }
def FnExactIsRingSaid : Prop := fnExactIsRingRow.holds Try.pinned (OpenSpec.ofChange fnExactIsRingSpec)

/-- ITS FALSE NEIGHBOUR: 'it returns false'. Refute it at one input. -/
def fnExactIsRingWrong : ChangeSpec := { name := "fnExactIsRing", fn := fun _ => fun
  | [d1, d2] => { results := [.lit (.bool false)], args := [d1, d2] }
  | _ => none }
def FnExactIsRingWrongFalsely : Prop := fnExactIsRingRow.holds Try.pinned (OpenSpec.ofChange fnExactIsRingWrong)

/-- 'laws.FnExactRingNodes': WHATEVER THE INPUT: true; the input reads as it did. -/
def fnExactRingNodesSpec : ChangeSpec := { name := "fnExactRingNodes", fn := fun _ => fun
  | [d1, d2] => { results := [.lit (.bool true)], args := [d1, d2] }
  | _ => none }
def fnExactRingNodesRow : OpenClaim := { program := "ytcbjdfgmkiodkaa", sum := "b7cd03b478e70e5a7cce75b5c3729495a2af0a53f0c3ea2f30eea3e6881fb405", func := "loop.example/g00897/laws.FnExactRingNodes", spec := "fnExactRingNodes", apart := false }
def FnExactRingNodesSaid : Prop := fnExactRingNodesRow.holds Try.pinned (OpenSpec.ofChange fnExactRingNodesSpec)

/-- ITS FALSE NEIGHBOUR: 'it returns false'. Refute it at one input. -/
def fnExactRingNodesWrong : ChangeSpec := { name := "fnExactRingNodes", fn := fun _ => fun
  | [d1, d2] => { results := [.lit (.bool false)], args := [d1, d2] }
  | _ => none }
def FnExactRingNodesWrongFalsely : Prop := fnExactRingNodesRow.holds Try.pinned (OpenSpec.ofChange fnExactRingNodesWrong)

/-- 'laws.FnExactIsValidGrowth': WHATEVER THE INPUT: true; the input reads as it did. -/
def fnExactIsValidGrowthSpec : ChangeSpec := { name := "fnExactIsValidGrowth", fn := fun _ => fun
  | [d1, d2] => { results := [.lit (.bool true)], args := [d1, d2] }
  | _ => none }
def fnExactIsValidGrowthRow : OpenClaim := { program := "ytcbjdfgmkiodkaa", sum := "b7cd03b478e70e5a7cce75b5c3729495a2af0a53f0c3ea2f30eea3e6881fb405", func := "loop.example/g00897/laws.FnExactIsValidGrowth", spec := "fnExactIsValidGrowth", apart := false }
def FnExactIsValidGrowthSaid : Prop := fnExactIsValidGrowthRow.holds Try.pinned (OpenSpec.ofChange fnExactIsValidGrowthSpec)

/-- ITS FALSE NEIGHBOUR: 'it returns false'. Refute it at one input. -/
def fnExactIsValidGrowthWrong : ChangeSpec := { name := "fnExactIsValidGrowth", fn := fun _ => fun
  | [d1, d2] => { results := [.lit (.bool false)], args := [d1, d2] }
  | _ => none }
def FnExactIsValidGrowthWrongFalsely : Prop := fnExactIsValidGrowthRow.holds Try.pinned (OpenSpec.ofChange fnExactIsValidGrowthWrong)

/-- 'laws.FnExactActiveGrowth': WHATEVER THE INPUT: true; the input reads as it did. -/
def fnExactActiveGrowthSpec : ChangeSpec := { name := "fnExactActiveGrowth", fn := fun _ => fun
  | [d1, d2, d3] => { results := [.lit (.bool true)], args := [d1, d2, d3] }
  | _ => none }
def fnExactActiveGrowthRow : OpenClaim := { program := "ytcbjdfgmkiodkaa", sum := "b7cd03b478e70e5a7cce75b5c3729495a2af0a53f0c3ea2f30eea3e6881fb405", func := "loop.example/g00897/laws.FnExactActiveGrowth", spec := "fnExactActiveGrowth", apart := false }
def FnExactActiveGrowthSaid : Prop := fnExactActiveGrowthRow.holds Try.pinned (OpenSpec.ofChange fnExactActiveGrowthSpec)

/-- ITS FALSE NEIGHBOUR: 'it returns false'. Refute it at one input. -/
def fnExactActiveGrowthWrong : ChangeSpec := { name := "fnExactActiveGrowth", fn := fun _ => fun
  | [d1, d2, d3] => { results := [.lit (.bool false)], args := [d1, d2, d3] }
  | _ => none }
def FnExactActiveGrowthWrongFalsely : Prop := fnExactActiveGrowthRow.holds Try.pinned (OpenSpec.ofChange fnExactActiveGrowthWrong)

/-- 'laws.FnExactTrafficBetween': WHATEVER THE INPUT: true; the input reads as it did. -/
def fnExactTrafficBetweenSpec : ChangeSpec := { name := "fnExactTrafficBetween", fn := fun _ => fun
  | [d1, d2] => { results := [.lit (.bool true)], args := [d1, d2] }
  | _ => none }
def fnExactTrafficBetweenRow : OpenClaim := { program := "ytcbjdfgmkiodkaa", sum := "b7cd03b478e70e5a7cce75b5c3729495a2af0a53f0c3ea2f30eea3e6881fb405", func := "loop.example/g00897/laws.FnExactTrafficBetween", spec := "fnExactTrafficBetween", apart := false }
def FnExactTrafficBetweenSaid : Prop := fnExactTrafficBetweenRow.holds Try.pinned (OpenSpec.ofChange fnExactTrafficBetweenSpec)

/-- ITS FALSE NEIGHBOUR: 'it returns false'. Refute it at one input. -/
def fnExactTrafficBetweenWrong : ChangeSpec := { name := "fnExactTrafficBetween", fn := fun _ => fun
  | [d1, d2] => { results := [.lit (.bool false)], args := [d1, d2] }
  | _ => none }
def FnExactTrafficBetweenWrongFalsely : Prop := fnExactTrafficBetweenRow.holds Try.pinned (OpenSpec.ofChange fnExactTrafficBetweenWrong)

/-- 'laws.FnExactAreDisjoint': WHATEVER THE INPUT: true; the input reads as it did. -/
def fnExactAreDisjointSpec : ChangeSpec := { name := "fnExactAreDisjoint", fn := fun _ => fun
  | [d1, d2, d3, d4] => { results := [.lit (.bool true)], args := [d1, d2, d3, d4] }
  | _ => none }
def fnExactAreDisjointRow : OpenClaim := { program := "ytcbjdfgmkiodkaa", sum := "b7cd03b478e70e5a7cce75b5c3729495a2af0a53f0c3ea2f30eea3e6881fb405", func := "loop.example/g00897/laws.FnExactAreDisjoint", spec := "fnExactAreDisjoint", unfollowed := true, recurses := true, apart := false }
def FnExactAreDisjointSaid : Prop := fnExactAreDisjointRow.holds Try.pinned (OpenSpec.ofChange fnExactAreDisjointSpec)

/-- ITS FALSE NEIGHBOUR: 'it returns false'. Refute it at one input. -/
def fnExactAreDisjointWrong : ChangeSpec := { name := "fnExactAreDisjoint", fn := fun _ => fun
  | [d1, d2, d3, d4] => { results := [.lit (.bool false)], args := [d1, d2, d3, d4] }
  | _ => none }
def FnExactAreDisjointWrongFalsely : Prop := fnExactAreDisjointRow.holds Try.pinned (OpenSpec.ofChange fnExactAreDisjointWrong)

/-- 'laws.FnExactConflictPairs': WHATEVER THE INPUT: true; the input reads as it did. -/
def fnExactConflictPairsSpec : ChangeSpec := { name := "fnExactConflictPairs", fn := fun _ => fun
  | [d1, d2] => { results := [.lit (.bool true)], args := [d1, d2] }
  | _ => none }
def fnExactConflictPairsRow : OpenClaim := { program := "ytcbjdfgmkiodkaa", sum := "b7cd03b478e70e5a7cce75b5c3729495a2af0a53f0c3ea2f30eea3e6881fb405", func := "loop.example/g00897/laws.FnExactConflictPairs", spec := "fnExactConflictPairs", apart := false }
def FnExactConflictPairsSaid : Prop := fnExactConflictPairsRow.holds Try.pinned (OpenSpec.ofChange fnExactConflictPairsSpec)

/-- ITS FALSE NEIGHBOUR: 'it returns false'. Refute it at one input. -/
def fnExactConflictPairsWrong : ChangeSpec := { name := "fnExactConflictPairs", fn := fun _ => fun
  | [d1, d2] => { results := [.lit (.bool false)], args := [d1, d2] }
  | _ => none }
def FnExactConflictPairsWrongFalsely : Prop := fnExactConflictPairsRow.holds Try.pinned (OpenSpec.ofChange fnExactConflictPairsWrong)

/- THE SECOND FORM. 'bulk': how many values and letters a reading holds, each counted each time it is reached (what is shared counts as often as it is met; a slice's spare places count too). A statement '..UptoSaid' is the law's where the arguments, and the package variables that the reading takes, are together of bulk at most 1048576: NARROWER than '..Said'. Prove '..Said' where nothing that the law and all that it calls make is longer than what came in: it says more and counts as full. Else prove '..UptoSaid'. A law counts once. -/
mutual
def uptoBulk {H : Type} : DataW H → Nat
  | .lit (.string bytes) => bytes.length + 1
  | .lit _ => 1
  | .nil => 1
  | .ptr d => uptoBulk d + 1
  | .slice elems spare => uptoBulkAll elems + uptoBulkAll spare + 1
  | .agg parts => uptoBulkAll parts + 1
  | .iface _ d => uptoBulk d + 1
  | .map entries => uptoBulkEntries entries + 1
  | .held _ => 1
def uptoBulkAll {H : Type} : List (DataW H) → Nat
  | [] => 0
  | d :: r => uptoBulk d + uptoBulkAll r
def uptoBulkEntries {H : Type} : List (Lit × DataW H) → Nat
  | [] => 0
  | x :: r => uptoBulkEntry x + uptoBulkEntries r
def uptoBulkEntry {H : Type} : Lit × DataW H → Nat
  | (.string bytes, d) => bytes.length + uptoBulk d + 1
  | (_, d) => uptoBulk d + 1
 end
def uptoSmall : (H : Type) → List (DataW H) → Bool := fun _ ds => decide (uptoBulkAll ds ≤ 1048576)
def OpenSpec.upto (s : _root_.Go.ChangeSpec) : _root_.Go.OpenSpec := { _root_.Go.OpenSpec.ofChange s with cond := some uptoSmall }

/-- 'laws.FnExactRiskGroups', WHERE WHAT IT READS IS OF BULK AT MOST 1048576: true; the input reads as it did. -/
def fnExactRiskGroupsUptoRow : OpenClaim := { program := "ytcbjdfgmkiodkaa", sum := "b7cd03b478e70e5a7cce75b5c3729495a2af0a53f0c3ea2f30eea3e6881fb405", func := "loop.example/g00897/laws.FnExactRiskGroups", spec := "fnExactRiskGroups", apart := false, narrowed := true }
def FnExactRiskGroupsUptoSaid : Prop := fnExactRiskGroupsUptoRow.holds Try.pinned (OpenSpec.upto fnExactRiskGroupsSpec)

/-- 'laws.FnExactRiskDisjoint', WHERE WHAT IT READS IS OF BULK AT MOST 1048576: true; the input reads as it did. -/
def fnExactRiskDisjointUptoRow : OpenClaim := { program := "ytcbjdfgmkiodkaa", sum := "b7cd03b478e70e5a7cce75b5c3729495a2af0a53f0c3ea2f30eea3e6881fb405", func := "loop.example/g00897/laws.FnExactRiskDisjoint", spec := "fnExactRiskDisjoint", apart := false, narrowed := true }
def FnExactRiskDisjointUptoSaid : Prop := fnExactRiskDisjointUptoRow.holds Try.pinned (OpenSpec.upto fnExactRiskDisjointSpec)

/-- 'laws.FnExactCommonRisks', WHERE WHAT IT READS IS OF BULK AT MOST 1048576: true; the input reads as it did. -/
def fnExactCommonRisksUptoRow : OpenClaim := { program := "ytcbjdfgmkiodkaa", sum := "b7cd03b478e70e5a7cce75b5c3729495a2af0a53f0c3ea2f30eea3e6881fb405", func := "loop.example/g00897/laws.FnExactCommonRisks", spec := "fnExactCommonRisks", apart := false, narrowed := true }
def FnExactCommonRisksUptoSaid : Prop := fnExactCommonRisksUptoRow.holds Try.pinned (OpenSpec.upto fnExactCommonRisksSpec)

/-- 'laws.FnExactIsValidOutage', WHERE WHAT IT READS IS OF BULK AT MOST 1048576: true; the input reads as it did. -/
def fnExactIsValidOutageUptoRow : OpenClaim := { program := "ytcbjdfgmkiodkaa", sum := "b7cd03b478e70e5a7cce75b5c3729495a2af0a53f0c3ea2f30eea3e6881fb405", func := "loop.example/g00897/laws.FnExactIsValidOutage", spec := "fnExactIsValidOutage", apart := false, narrowed := true }
def FnExactIsValidOutageUptoSaid : Prop := fnExactIsValidOutageUptoRow.holds Try.pinned (OpenSpec.upto fnExactIsValidOutageSpec)

/-- 'laws.FnExactStateWeight', WHERE WHAT IT READS IS OF BULK AT MOST 1048576: true; the input reads as it did. -/
def fnExactStateWeightUptoRow : OpenClaim := { program := "ytcbjdfgmkiodkaa", sum := "b7cd03b478e70e5a7cce75b5c3729495a2af0a53f0c3ea2f30eea3e6881fb405", func := "loop.example/g00897/laws.FnExactStateWeight", spec := "fnExactStateWeight", apart := false, narrowed := true }
def FnExactStateWeightUptoSaid : Prop := fnExactStateWeightUptoRow.holds Try.pinned (OpenSpec.upto fnExactStateWeightSpec)

/-- 'laws.FnExactMeetsTarget', WHERE WHAT IT READS IS OF BULK AT MOST 1048576: true; the input reads as it did. -/
def fnExactMeetsTargetUptoRow : OpenClaim := { program := "ytcbjdfgmkiodkaa", sum := "b7cd03b478e70e5a7cce75b5c3729495a2af0a53f0c3ea2f30eea3e6881fb405", func := "loop.example/g00897/laws.FnExactMeetsTarget", spec := "fnExactMeetsTarget", apart := false, narrowed := true }
def FnExactMeetsTargetUptoSaid : Prop := fnExactMeetsTargetUptoRow.holds Try.pinned (OpenSpec.upto fnExactMeetsTargetSpec)

/-- 'laws.FnExactCriticalGroups', WHERE WHAT IT READS IS OF BULK AT MOST 1048576: true; the input reads as it did. -/
def fnExactCriticalGroupsUptoRow : OpenClaim := { program := "ytcbjdfgmkiodkaa", sum := "b7cd03b478e70e5a7cce75b5c3729495a2af0a53f0c3ea2f30eea3e6881fb405", func := "loop.example/g00897/laws.FnExactCriticalGroups", spec := "fnExactCriticalGroups", apart := false, narrowed := true }
def FnExactCriticalGroupsUptoSaid : Prop := fnExactCriticalGroupsUptoRow.holds Try.pinned (OpenSpec.upto fnExactCriticalGroupsSpec)

/-- 'laws.FnExactBridges', WHERE WHAT IT READS IS OF BULK AT MOST 1048576: true; the input reads as it did. -/
def fnExactBridgesUptoRow : OpenClaim := { program := "ytcbjdfgmkiodkaa", sum := "b7cd03b478e70e5a7cce75b5c3729495a2af0a53f0c3ea2f30eea3e6881fb405", func := "loop.example/g00897/laws.FnExactBridges", spec := "fnExactBridges", apart := false, narrowed := true }
def FnExactBridgesUptoSaid : Prop := fnExactBridgesUptoRow.holds Try.pinned (OpenSpec.upto fnExactBridgesSpec)

/-- 'laws.FnExactCutNodes', WHERE WHAT IT READS IS OF BULK AT MOST 1048576: true; the input reads as it did. -/
def fnExactCutNodesUptoRow : OpenClaim := { program := "ytcbjdfgmkiodkaa", sum := "b7cd03b478e70e5a7cce75b5c3729495a2af0a53f0c3ea2f30eea3e6881fb405", func := "loop.example/g00897/laws.FnExactCutNodes", spec := "fnExactCutNodes", apart := false, narrowed := true }
def FnExactCutNodesUptoSaid : Prop := fnExactCutNodesUptoRow.holds Try.pinned (OpenSpec.upto fnExactCutNodesSpec)

/-- 'laws.FnExactSuspectGroups', WHERE WHAT IT READS IS OF BULK AT MOST 1048576: true; the input reads as it did. -/
def fnExactSuspectGroupsUptoRow : OpenClaim := { program := "ytcbjdfgmkiodkaa", sum := "b7cd03b478e70e5a7cce75b5c3729495a2af0a53f0c3ea2f30eea3e6881fb405", func := "loop.example/g00897/laws.FnExactSuspectGroups", spec := "fnExactSuspectGroups", unfollowed := true, recurses := true, apart := false, narrowed := true }
def FnExactSuspectGroupsUptoSaid : Prop := fnExactSuspectGroupsUptoRow.holds Try.pinned (OpenSpec.upto fnExactSuspectGroupsSpec)

/-- 'laws.FnExactIsExplanation', WHERE WHAT IT READS IS OF BULK AT MOST 1048576: true; the input reads as it did. -/
def fnExactIsExplanationUptoRow : OpenClaim := { program := "ytcbjdfgmkiodkaa", sum := "b7cd03b478e70e5a7cce75b5c3729495a2af0a53f0c3ea2f30eea3e6881fb405", func := "loop.example/g00897/laws.FnExactIsExplanation", spec := "fnExactIsExplanation", unfollowed := true, recurses := true, apart := false, narrowed := true }
def FnExactIsExplanationUptoSaid : Prop := fnExactIsExplanationUptoRow.holds Try.pinned (OpenSpec.upto fnExactIsExplanationSpec)

/-- 'laws.FnExactCheckAssignment', WHERE WHAT IT READS IS OF BULK AT MOST 1048576: true; the input reads as it did. -/
def fnExactCheckAssignmentUptoRow : OpenClaim := { program := "ytcbjdfgmkiodkaa", sum := "b7cd03b478e70e5a7cce75b5c3729495a2af0a53f0c3ea2f30eea3e6881fb405", func := "loop.example/g00897/laws.FnExactCheckAssignment", spec := "fnExactCheckAssignment", apart := false, narrowed := true }
def FnExactCheckAssignmentUptoSaid : Prop := fnExactCheckAssignmentUptoRow.holds Try.pinned (OpenSpec.upto fnExactCheckAssignmentSpec)

/-- 'laws.FnExactFiberBound', WHERE WHAT IT READS IS OF BULK AT MOST 1048576: true; the input reads as it did. -/
def fnExactFiberBoundUptoRow : OpenClaim := { program := "ytcbjdfgmkiodkaa", sum := "b7cd03b478e70e5a7cce75b5c3729495a2af0a53f0c3ea2f30eea3e6881fb405", func := "loop.example/g00897/laws.FnExactFiberBound", spec := "fnExactFiberBound", unfollowed := true, recurses := true, apart := false, narrowed := true }
def FnExactFiberBoundUptoSaid : Prop := fnExactFiberBoundUptoRow.holds Try.pinned (OpenSpec.upto fnExactFiberBoundSpec)

/-- 'laws.FnExactCollidingLights', WHERE WHAT IT READS IS OF BULK AT MOST 1048576: true; the input reads as it did. -/
def fnExactCollidingLightsUptoRow : OpenClaim := { program := "ytcbjdfgmkiodkaa", sum := "b7cd03b478e70e5a7cce75b5c3729495a2af0a53f0c3ea2f30eea3e6881fb405", func := "loop.example/g00897/laws.FnExactCollidingLights", spec := "fnExactCollidingLights", apart := false, narrowed := true }
def FnExactCollidingLightsUptoSaid : Prop := fnExactCollidingLightsUptoRow.holds Try.pinned (OpenSpec.upto fnExactCollidingLightsSpec)

/-- 'laws.FnExactJoinRoutes', WHERE WHAT IT READS IS OF BULK AT MOST 1048576: true; the input reads as it did. -/
def fnExactJoinRoutesUptoRow : OpenClaim := { program := "ytcbjdfgmkiodkaa", sum := "b7cd03b478e70e5a7cce75b5c3729495a2af0a53f0c3ea2f30eea3e6881fb405", func := "loop.example/g00897/laws.FnExactJoinRoutes", spec := "fnExactJoinRoutes", apart := false, narrowed := true }
def FnExactJoinRoutesUptoSaid : Prop := fnExactJoinRoutesUptoRow.holds Try.pinned (OpenSpec.upto fnExactJoinRoutesSpec)

/-- 'laws.FnExactIsRing', WHERE WHAT IT READS IS OF BULK AT MOST 1048576: true; the input reads as it did. -/
def fnExactIsRingUptoRow : OpenClaim := { program := "ytcbjdfgmkiodkaa", sum := "b7cd03b478e70e5a7cce75b5c3729495a2af0a53f0c3ea2f30eea3e6881fb405", func := "loop.example/g00897/laws.FnExactIsRing", spec := "fnExactIsRing", apart := false, narrowed := true }
def FnExactIsRingUptoSaid : Prop := fnExactIsRingUptoRow.holds Try.pinned (OpenSpec.upto fnExactIsRingSpec)

/-- 'laws.FnExactRingNodes', WHERE WHAT IT READS IS OF BULK AT MOST 1048576: true; the input reads as it did. -/
def fnExactRingNodesUptoRow : OpenClaim := { program := "ytcbjdfgmkiodkaa", sum := "b7cd03b478e70e5a7cce75b5c3729495a2af0a53f0c3ea2f30eea3e6881fb405", func := "loop.example/g00897/laws.FnExactRingNodes", spec := "fnExactRingNodes", apart := false, narrowed := true }
def FnExactRingNodesUptoSaid : Prop := fnExactRingNodesUptoRow.holds Try.pinned (OpenSpec.upto fnExactRingNodesSpec)

/-- 'laws.FnExactIsValidGrowth', WHERE WHAT IT READS IS OF BULK AT MOST 1048576: true; the input reads as it did. -/
def fnExactIsValidGrowthUptoRow : OpenClaim := { program := "ytcbjdfgmkiodkaa", sum := "b7cd03b478e70e5a7cce75b5c3729495a2af0a53f0c3ea2f30eea3e6881fb405", func := "loop.example/g00897/laws.FnExactIsValidGrowth", spec := "fnExactIsValidGrowth", apart := false, narrowed := true }
def FnExactIsValidGrowthUptoSaid : Prop := fnExactIsValidGrowthUptoRow.holds Try.pinned (OpenSpec.upto fnExactIsValidGrowthSpec)

/-- 'laws.FnExactActiveGrowth', WHERE WHAT IT READS IS OF BULK AT MOST 1048576: true; the input reads as it did. -/
def fnExactActiveGrowthUptoRow : OpenClaim := { program := "ytcbjdfgmkiodkaa", sum := "b7cd03b478e70e5a7cce75b5c3729495a2af0a53f0c3ea2f30eea3e6881fb405", func := "loop.example/g00897/laws.FnExactActiveGrowth", spec := "fnExactActiveGrowth", apart := false, narrowed := true }
def FnExactActiveGrowthUptoSaid : Prop := fnExactActiveGrowthUptoRow.holds Try.pinned (OpenSpec.upto fnExactActiveGrowthSpec)

/-- 'laws.FnExactTrafficBetween', WHERE WHAT IT READS IS OF BULK AT MOST 1048576: true; the input reads as it did. -/
def fnExactTrafficBetweenUptoRow : OpenClaim := { program := "ytcbjdfgmkiodkaa", sum := "b7cd03b478e70e5a7cce75b5c3729495a2af0a53f0c3ea2f30eea3e6881fb405", func := "loop.example/g00897/laws.FnExactTrafficBetween", spec := "fnExactTrafficBetween", apart := false, narrowed := true }
def FnExactTrafficBetweenUptoSaid : Prop := fnExactTrafficBetweenUptoRow.holds Try.pinned (OpenSpec.upto fnExactTrafficBetweenSpec)

/-- 'laws.FnExactAreDisjoint', WHERE WHAT IT READS IS OF BULK AT MOST 1048576: true; the input reads as it did. -/
def fnExactAreDisjointUptoRow : OpenClaim := { program := "ytcbjdfgmkiodkaa", sum := "b7cd03b478e70e5a7cce75b5c3729495a2af0a53f0c3ea2f30eea3e6881fb405", func := "loop.example/g00897/laws.FnExactAreDisjoint", spec := "fnExactAreDisjoint", unfollowed := true, recurses := true, apart := false, narrowed := true }
def FnExactAreDisjointUptoSaid : Prop := fnExactAreDisjointUptoRow.holds Try.pinned (OpenSpec.upto fnExactAreDisjointSpec)

/-- 'laws.FnExactConflictPairs', WHERE WHAT IT READS IS OF BULK AT MOST 1048576: true; the input reads as it did. -/
def fnExactConflictPairsUptoRow : OpenClaim := { program := "ytcbjdfgmkiodkaa", sum := "b7cd03b478e70e5a7cce75b5c3729495a2af0a53f0c3ea2f30eea3e6881fb405", func := "loop.example/g00897/laws.FnExactConflictPairs", spec := "fnExactConflictPairs", apart := false, narrowed := true }
def FnExactConflictPairsUptoSaid : Prop := fnExactConflictPairsUptoRow.holds Try.pinned (OpenSpec.upto fnExactConflictPairsSpec)

end Rows
end Go.Proofs.Ytcbjdfgmkiodkaa
