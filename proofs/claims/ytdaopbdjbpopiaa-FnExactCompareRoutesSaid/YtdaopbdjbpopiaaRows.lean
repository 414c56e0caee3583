/-
  No cell of these rows narrows 'for every input' (looked for: loops, veiled, ifaces, maps, wideKeys, modest, calm, conditions, laid).
  DERIVED. THE GIVEN ROWS OF THIS SEAT. 17 by the template 'for every input the law returns true; each argument reads behind the call as it read before'; 0 by the template 'total and deterministic' (their statements: YtdaopbdjbpopiaaTotals.lean).
  GIVEN WITH THE SEED: the statements are not yours to turn. If you find one false, say at which input.
  Laid BY PROGRAM, IN A SANDBOX (cutbox-rows.mjs): the forced cells as the released guide's own fill.sh prints them over the translation c785eb67c5907395… (all of the seat's roots in one cut). By AI agents, Wed Nov 11 2026. No macro, syntax, notation, axiom, sorry.
-/
import Derived.Test.YtdaopbdjbpopiaaChecked
import GoSem.Claim
import GoSem.ClaimJoined
import GoSem.ClaimMapViews
import Derived.JoinedTies
import Derived.KernelRfl
namespace Go.Proofs.Ytdaopbdjbpopiaa
/- THE CELL 'sum', in the pinned program and in every row, IS THE sha256 OF THE DUMP (.gsa) THAT YtdaopbdjbpopiaaProg.lean LOADS. Nothing in Lean hashes anything: it is a label: what it is worth is what the hold of that sum in a sandbox is worth. -/
noncomputable def Try.pinned : Pinned := { name := "ytdaopbdjbpopiaa", sum := "c785eb67c5907395a7d5b8f7513f909e2728825f3fcc0e2bcd1022ee12d453e3", checked := Try.checked }
namespace Rows
def none {H : Type} : Left H := { results := [], args := [] }

/-- 'laws.FnExactRiskGroups': WHATEVER THE INPUT: true; the input reads as it did. -/
def fnExactRiskGroupsSpec : ChangeSpec := { name := "fnExactRiskGroups", fn := fun _ => fun
  | [d] => { results := [.lit (.bool true)], args := [d] }
  | _ => none }
def fnExactRiskGroupsRow : OpenClaim := { program := "ytdaopbdjbpopiaa", sum := "c785eb67c5907395a7d5b8f7513f909e2728825f3fcc0e2bcd1022ee12d453e3", func := "loop.example/g00897/laws.FnExactRiskGroups", spec := "fnExactRiskGroups", apart := false }
def FnExactRiskGroupsSaid : Prop := fnExactRiskGroupsRow.holds Try.pinned (OpenSpec.ofChange fnExactRiskGroupsSpec)

/-- ITS FALSE NEIGHBOUR: 'it returns false'. Refute it at one input. -/
def fnExactRiskGroupsWrong : ChangeSpec := { name := "fnExactRiskGroups", fn := fun _ => fun
  | [d] => { results := [.lit (.bool false)], args := [d] }
  | _ => none }
def FnExactRiskGroupsWrongFalsely : Prop := fnExactRiskGroupsRow.holds Try.pinned (OpenSpec.ofChange fnExactRiskGroupsWrong)

/-- 'laws.FnExactRiskDisjoint': WHATEVER THE INPUT: true; the input reads as it did. -/
def fnExactRiskDisjointSpec : ChangeSpec := { name := "fnExactRiskDisjoint", fn := fun _ => fun
  | [d1, d2, d3] => { results := [.lit (.bool true)], args := [d1, d2, d3] }
  | _ => none }
def fnExactRiskDisjointRow : OpenClaim := { program := "ytdaopbdjbpopiaa", sum := "c785eb67c5907395a7d5b8f7513f909e2728825f3fcc0e2bcd1022ee12d453e3", func := "loop.example/g00897/laws.FnExactRiskDisjoint", spec := "fnExactRiskDisjoint", apart := false }
def FnExactRiskDisjointSaid : Prop := fnExactRiskDisjointRow.holds Try.pinned (OpenSpec.ofChange fnExactRiskDisjointSpec)

/-- ITS FALSE NEIGHBOUR: 'it returns false'. Refute it at one input. -/
def fnExactRiskDisjointWrong : ChangeSpec := { name := "fnExactRiskDisjoint", fn := fun _ => fun
  | [d1, d2, d3] => { results := [.lit (.bool false)], args := [d1, d2, d3] }
  | _ => none }
def FnExactRiskDisjointWrongFalsely : Prop := fnExactRiskDisjointRow.holds Try.pinned (OpenSpec.ofChange fnExactRiskDisjointWrong)

/-- 'laws.FnExactCompareRoutes': WHATEVER THE INPUT: true; the input reads as it did. -/
def fnExactCompareRoutesSpec : ChangeSpec := { name := "fnExactCompareRoutes", fn := fun _ => fun
  | [d1, d2, d3] => { results := [.lit (.bool true)], args := [d1, d2, d3] }
  | _ => none }
def fnExactCompareRoutesRow : OpenClaim := { program := "ytdaopbdjbpopiaa", sum := "c785eb67c5907395a7d5b8f7513f909e2728825f3fcc0e2bcd1022ee12d453e3", func := "loop.example/g00897/laws.FnExactCompareRoutes", spec := "fnExactCompareRoutes", recurses := true, apart := false }
def FnExactCompareRoutesSaid : Prop := fnExactCompareRoutesRow.holds Try.pinned (OpenSpec.ofChange fnExactCompareRoutesSpec)

/-- ITS FALSE NEIGHBOUR: 'it returns false'. Refute it at one input. -/
def fnExactCompareRoutesWrong : ChangeSpec := { name := "fnExactCompareRoutes", fn := fun _ => fun
  | [d1, d2, d3] => { results := [.lit (.bool false)], args := [d1, d2, d3] }
  | _ => none }
def FnExactCompareRoutesWrongFalsely : Prop := fnExactCompareRoutesRow.holds Try.pinned (OpenSpec.ofChange fnExactCompareRoutesWrong)

/-- 'laws.FnExactRoutesThrough': WHATEVER THE INPUT: true; the input reads as it did. -/
def fnExactRoutesThroughSpec : ChangeSpec := { name := "fnExactRoutesThrough", fn := fun _ => fun
  | [d1, d2, d3] => { results := [.lit (.bool true)], args := [d1, d2, d3] }
  | _ => none }
def fnExactRoutesThroughRow : OpenClaim := { program := "ytdaopbdjbpopiaa", sum := "c785eb67c5907395a7d5b8f7513f909e2728825f3fcc0e2bcd1022ee12d453e3", func := "loop.example/g00897/laws.FnExactRoutesThrough", spec := "fnExactRoutesThrough", apart := false }
def FnExactRoutesThroughSaid : Prop := fnExactRoutesThroughRow.holds Try.pinned (OpenSpec.ofChange fnExactRoutesThroughSpec)

/-- ITS FALSE NEIGHBOUR: 'it returns false'. Refute it at one input. -/
def fnExactRoutesThroughWrong : ChangeSpec := { name := "fnExactRoutesThrough", fn := fun _ => fun
  | [d1, d2, d3] => { results := [.lit (.bool false)], args := [d1, d2, d3] }
  | _ => none }
def FnExactRoutesThroughWrongFalsely : Prop := fnExactRoutesThroughRow.holds Try.pinned (OpenSpec.ofChange fnExactRoutesThroughWrong)

/-- 'laws.FnExactJoinRoutes': WHATEVER THE INPUT: true; the input reads as it did. -/
def fnExactJoinRoutesSpec : ChangeSpec := { name := "fnExactJoinRoutes", fn := fun _ => fun
  | [d1, d2, d3] => { results := [.lit (.bool true)], args := [d1, d2, d3] }
  | _ => none }
def fnExactJoinRoutesRow : OpenClaim := { program := "ytdaopbdjbpopiaa", sum := "c785eb67c5907395a7d5b8f7513f909e2728825f3fcc0e2bcd1022ee12d453e3", func := "loop.example/g00897/laws.FnExactJoinRoutes", spec := "fnExactJoinRoutes", apart := false }
def FnExactJoinRoutesSaid : Prop := fnExactJoinRoutesRow.holds Try.pinned (OpenSpec.ofChange fnExactJoinRoutesSpec)

/-- ITS FALSE NEIGHBOUR: 'it returns false'. Refute it at one input. -/
def fnExactJoinRoutesWrong : ChangeSpec := { name := "fnExactJoinRoutes", fn := fun _ => fun
  | [d1, d2, d3] => { results := [.lit (.bool false)], args := [d1, d2, d3] }
  | _ => none }
def FnExactJoinRoutesWrongFalsely : Prop := fnExactJoinRoutesRow.holds Try.pinned (OpenSpec.ofChange fnExactJoinRoutesWrong)

/-- 'laws.FnExactRegeneratorsFor': WHATEVER THE INPUT: true; the input reads as it did. -/
def fnExactRegeneratorsForSpec : ChangeSpec := { name := "fnExactRegeneratorsFor", fn := fun _ => fun
  | [d1, d2, d3] => { results := [.lit (.bool true)], args := [d1, d2, d3] }
  | _ => none }
def fnExactRegeneratorsForRow : OpenClaim := { program := "ytdaopbdjbpopiaa", sum := "c785eb67c5907395a7d5b8f7513f909e2728825f3fcc0e2bcd1022ee12d453e3", func := "loop.example/g00897/laws.FnExactRegeneratorsFor", spec := "fnExactRegeneratorsFor", apart := false }
def FnExactRegeneratorsForSaid : Prop := fnExactRegeneratorsForRow.holds Try.pinned (OpenSpec.ofChange fnExactRegeneratorsForSpec)

/-- ITS FALSE NEIGHBOUR: 'it returns false'. Refute it at one input. -/
def fnExactRegeneratorsForWrong : ChangeSpec := { name := "fnExactRegeneratorsFor", fn := fun _ => fun
  | [d1, d2, d3] => { results := [.lit (.bool false)], args := [d1, d2, d3] }
  | _ => none }
def FnExactRegeneratorsForWrongFalsely : Prop := fnExactRegeneratorsForRow.holds Try.pinned (OpenSpec.ofChange fnExactRegeneratorsForWrong)

/-- 'laws.FnExactSegmentLengths': WHATEVER THE INPUT: true; the input reads as it did. -/
def fnExactSegmentLengthsSpec : ChangeSpec := { name := "fnExactSegmentLengths", fn := fun _ => fun
  | [d1, d2, d3] => { results := [.lit (.bool true)], args := [d1, d2, d3] }
  | _ => none }
def fnExactSegmentLengthsRow : OpenClaim := { program := "ytdaopbdjbpopiaa", sum := "c785eb67c5907395a7d5b8f7513f909e2728825f3fcc0e2bcd1022ee12d453e3", func := "loop.example/g00897/laws.FnExactSegmentLengths", spec := "fnExactSegmentLengths", apart := false }
def FnExactSegmentLengthsSaid : Prop := fnExactSegmentLengthsRow.holds Try.pinned (OpenSpec.ofChange fnExactSegmentLengthsSpec)

/-- ITS FALSE NEIGHBOUR: 'it returns false'. Refute it at one input. -/
def fnExactSegmentLengthsWrong : ChangeSpec := { name := "fnExactSegmentLengths", fn := fun _ => fun
  | [d1, d2, d3] => { results := [.lit (.bool false)], args := [d1, d2, d3] }
  | _ => none }
def FnExactSegmentLengthsWrongFalsely : Prop := fnExactSegmentLengthsRow.holds Try.pinned (OpenSpec.ofChange fnExactSegmentLengthsWrong)

/-- 'laws.FnExactIsValidRequests': WHATEVER THE INPUT: true; the input reads as it did. -/
def fnExactIsValidRequestsSpec : ChangeSpec := { name := "fnExactIsValidRequests", fn := fun _ => fun
  | [d1, d2] => { results := [.lit (.bool true)], args := [d1, d2] }
  | _ => none }
def fnExactIsValidRequestsRow : OpenClaim := { program := "ytdaopbdjbpopiaa", sum := "c785eb67c5907395a7d5b8f7513f909e2728825f3fcc0e2bcd1022ee12d453e3", func := "loop.example/g00897/laws.FnExactIsValidRequests", spec := "fnExactIsValidRequests", apart := false }
def FnExactIsValidRequestsSaid : Prop := fnExactIsValidRequestsRow.holds Try.pinned (OpenSpec.ofChange fnExactIsValidRequestsSpec)

/-- ITS FALSE NEIGHBOUR: 'it returns false'. Refute it at one input. -/
def fnExactIsValidRequestsWrong : ChangeSpec := { name := "fnExactIsValidRequests", fn := fun _ => fun
  | [d1, d2] => { results := [.lit (.bool false)], args := [d1, d2] }
  | _ => none }
def FnExactIsValidRequestsWrongFalsely : Prop := fnExactIsValidRequestsRow.holds Try.pinned (OpenSpec.ofChange fnExactIsValidRequestsWrong)

/-- 'laws.FnExactIsValidPlan': WHATEVER THE INPUT: true; the input reads as it did. -/
def fnExactIsValidPlanSpec : ChangeSpec := { name := "fnExactIsValidPlan", fn := fun _ => fun
  | [d] => { results := [.lit (.bool true)], args := [d] }
  | _ => none }
def fnExactIsValidPlanRow : OpenClaim := { program := "ytdaopbdjbpopiaa", sum := "c785eb67c5907395a7d5b8f7513f909e2728825f3fcc0e2bcd1022ee12d453e3", func := "loop.example/g00897/laws.FnExactIsValidPlan", spec := "fnExactIsValidPlan", apart := false }
def FnExactIsValidPlanSaid : Prop := fnExactIsValidPlanRow.holds Try.pinned (OpenSpec.ofChange fnExactIsValidPlanSpec)

/-- ITS FALSE NEIGHBOUR: 'it returns false'. Refute it at one input. -/
def fnExactIsValidPlanWrong : ChangeSpec := { name := "fnExactIsValidPlan", fn := fun _ => fun
  | [d] => { results := [.lit (.bool false)], args := [d] }
  | _ => none }
def FnExactIsValidPlanWrongFalsely : Prop := fnExactIsValidPlanRow.holds Try.pinned (OpenSpec.ofChange fnExactIsValidPlanWrong)

/-- 'laws.FnExactLightNumber': WHATEVER THE INPUT: true; the input reads as it did. -/
def fnExactLightNumberSpec : ChangeSpec := { name := "fnExactLightNumber", fn := fun _ => fun
  | [d1, d2] => { results := [.lit (.bool true)], args := [d1, d2] }
  | _ => none }
def fnExactLightNumberRow : OpenClaim := { program := "ytdaopbdjbpopiaa", sum := "c785eb67c5907395a7d5b8f7513f909e2728825f3fcc0e2bcd1022ee12d453e3", func := "loop.example/g00897/laws.FnExactLightNumber", spec := "fnExactLightNumber", apart := false }
def FnExactLightNumberSaid : Prop := fnExactLightNumberRow.holds Try.pinned (OpenSpec.ofChange fnExactLightNumberSpec)

/-- ITS FALSE NEIGHBOUR: 'it returns false'. Refute it at one input. -/
def fnExactLightNumberWrong : ChangeSpec := { name := "fnExactLightNumber", fn := fun _ => fun
  | [d1, d2] => { results := [.lit (.bool false)], args := [d1, d2] }
  | _ => none }
def FnExactLightNumberWrongFalsely : Prop := fnExactLightNumberRow.holds Try.pinned (OpenSpec.ofChange fnExactLightNumberWrong)

/-- 'laws.FnExactPlanHeight': WHATEVER THE INPUT: true; the input reads as it did. -/
def fnExactPlanHeightSpec : ChangeSpec := { name := "fnExactPlanHeight", fn := fun _ => fun
  | [d] => { results := [.lit (.bool true)], args := [d] }
  | _ => none }
def fnExactPlanHeightRow : OpenClaim := { program := "ytdaopbdjbpopiaa", sum := "c785eb67c5907395a7d5b8f7513f909e2728825f3fcc0e2bcd1022ee12d453e3", func := "loop.example/g00897/laws.FnExactPlanHeight", spec := "fnExactPlanHeight", apart := false }
def FnExactPlanHeightSaid : Prop := fnExactPlanHeightRow.holds Try.pinned (OpenSpec.ofChange fnExactPlanHeightSpec)

/-- ITS FALSE NEIGHBOUR: 'it returns false'. Refute it at one input. -/
def fnExactPlanHeightWrong : ChangeSpec := { name := "fnExactPlanHeight", fn := fun _ => fun
  | [d] => { results := [.lit (.bool false)], args := [d] }
  | _ => none }
def FnExactPlanHeightWrongFalsely : Prop := fnExactPlanHeightRow.holds Try.pinned (OpenSpec.ofChange fnExactPlanHeightWrong)

/-- 'laws.FnExactFiberMasks': WHATEVER THE INPUT: true; the input reads as it did. -/
def fnExactFiberMasksSpec : ChangeSpec := { name := "fnExactFiberMasks", fn := fun _ => fun
  | [d] => { results := [.lit (.bool true)], args := [d] }
  | _ => none }
def fnExactFiberMasksRow : OpenClaim := { program := "ytdaopbdjbpopiaa", sum := "c785eb67c5907395a7d5b8f7513f909e2728825f3fcc0e2bcd1022ee12d453e3", func := "loop.example/g00897/laws.FnExactFiberMasks", spec := "fnExactFiberMasks", apart := false }
def FnExactFiberMasksSaid : Prop := fnExactFiberMasksRow.holds Try.pinned (OpenSpec.ofChange fnExactFiberMasksSpec)

/-- ITS FALSE NEIGHBOUR: 'it returns false'. Refute it at one input. -/
def fnExactFiberMasksWrong : ChangeSpec := { name := "fnExactFiberMasks", fn := fun _ => fun
  | [d] => { results := [.lit (.bool false)], args := [d] }
  | _ => none }
def FnExactFiberMasksWrongFalsely : Prop := fnExactFiberMasksRow.holds Try.pinned (OpenSpec.ofChange fnExactFiberMasksWrong)

/-- 'laws.FnExactRouteMask': WHATEVER THE INPUT: true; the input reads as it did. -/
def fnExactRouteMaskSpec : ChangeSpec := { name := "fnExactRouteMask", fn := fun _ => fun
  | [d1, d2] => { results := [.lit (.bool true)], args := [d1, d2] }
  | _ => none }
def fnExactRouteMaskRow : OpenClaim := { program := "ytdaopbdjbpopiaa", sum := "c785eb67c5907395a7d5b8f7513f909e2728825f3fcc0e2bcd1022ee12d453e3", func := "loop.example/g00897/laws.FnExactRouteMask", spec := "fnExactRouteMask", apart := false }
def FnExactRouteMaskSaid : Prop := fnExactRouteMaskRow.holds Try.pinned (OpenSpec.ofChange fnExactRouteMaskSpec)

/-- ITS FALSE NEIGHBOUR: 'it returns false'. Refute it at one input. -/
def fnExactRouteMaskWrong : ChangeSpec := { name := "fnExactRouteMask", fn := fun _ => fun
  | [d1, d2] => { results := [.lit (.bool false)], args := [d1, d2] }
  | _ => none }
def FnExactRouteMaskWrongFalsely : Prop := fnExactRouteMaskRow.holds Try.pinned (OpenSpec.ofChange fnExactRouteMaskWrong)

/-- 'laws.FnExactIsValidGrowth': WHATEVER THE INPUT: true; the input reads as it did. -/
def fnExactIsValidGrowthSpec : ChangeSpec := { name := "fnExactIsValidGrowth", fn := fun _ => fun
  | [d1, d2] => { results := [.lit (.bool true)], args := [d1, d2] }
  | _ => none }
def fnExactIsValidGrowthRow : OpenClaim := { program := "ytdaopbdjbpopiaa", sum := "c785eb67c5907395a7d5b8f7513f909e2728825f3fcc0e2bcd1022ee12d453e3", func := "loop.example/g00897/laws.FnExactIsValidGrowth", spec := "fnExactIsValidGrowth", apart := false }
def FnExactIsValidGrowthSaid : Prop := fnExactIsValidGrowthRow.holds Try.pinned (OpenSpec.ofChange fnExactIsValidGrowthSpec)

/-- ITS FALSE NEIGHBOUR: 'it returns false'. Refute it at one input. -/
def fnExactIsValidGrowthWrong : ChangeSpec := { name := "fnExactIsValidGrowth", fn := fun _ => fun
  | [d1, d2] => { results := [.lit (.bool false)], args := [d1, d2] }
  | _ => none }
def FnExactIsValidGrowthWrongFalsely : Prop := fnExactIsValidGrowthRow.holds Try.pinned (OpenSpec.ofChange fnExactIsValidGrowthWrong)

/-- 'laws.FnExactActiveGrowth': WHATEVER THE INPUT: true; the input reads as it did. -/
def fnExactActiveGrowthSpec : ChangeSpec := { name := "fnExactActiveGrowth", fn := fun _ => fun
  | [d1, d2, d3] => { results := [.lit (.bool true)], args := [d1, d2, d3] }
  | _ => none }
def fnExactActiveGrowthRow : OpenClaim := { program := "ytdaopbdjbpopiaa", sum := "c785eb67c5907395a7d5b8f7513f909e2728825f3fcc0e2bcd1022ee12d453e3", func := "loop.example/g00897/laws.FnExactActiveGrowth", spec := "fnExactActiveGrowth", apart := false }
def FnExactActiveGrowthSaid : Prop := fnExactActiveGrowthRow.holds Try.pinned (OpenSpec.ofChange fnExactActiveGrowthSpec)

/-- ITS FALSE NEIGHBOUR: 'it returns false'. Refute it at one input. -/
def fnExactActiveGrowthWrong : ChangeSpec := { name := "fnExactActiveGrowth", fn := fun _ => fun
  | [d1, d2, d3] => { results := [.lit (.bool false)], args := [d1, d2, d3] }
  | _ => none }
def FnExactActiveGrowthWrongFalsely : Prop := fnExactActiveGrowthRow.holds Try.pinned (OpenSpec.ofChange fnExactActiveGrowthWrong)

/-- 'laws.FnExactTrafficBetween': WHATEVER THE INPUT: true; the input reads as it did. -/
def fnExactTrafficBetweenSpec : ChangeSpec := { name := "fnExactTrafficBetween", fn := fun _ => fun
  | [d1, d2] => { results := [.lit (.bool true)], args := [d1, d2] }
  | _ => none }
def fnExactTrafficBetweenRow : OpenClaim := { program := "ytdaopbdjbpopiaa", sum := "c785eb67c5907395a7d5b8f7513f909e2728825f3fcc0e2bcd1022ee12d453e3", func := "loop.example/g00897/laws.FnExactTrafficBetween", spec := "fnExactTrafficBetween", apart := false }
def FnExactTrafficBetweenSaid : Prop := fnExactTrafficBetweenRow.holds Try.pinned (OpenSpec.ofChange fnExactTrafficBetweenSpec)

/-- ITS FALSE NEIGHBOUR: 'it returns false'. Refute it at one input. -/
def fnExactTrafficBetweenWrong : ChangeSpec := { name := "fnExactTrafficBetween", fn := fun _ => fun
  | [d1, d2] => { results := [.lit (.bool false)], args := [d1, d2] }
  | _ => none }
def FnExactTrafficBetweenWrongFalsely : Prop := fnExactTrafficBetweenRow.holds Try.pinned (OpenSpec.ofChange fnExactTrafficBetweenWrong)

/-- 'laws.FnExactCounterGaps': WHATEVER THE INPUT: true; the input reads as it did. -/
def fnExactCounterGapsSpec : ChangeSpec := { name := "fnExactCounterGaps", fn := fun _ => fun
  | [d] => { results := [.lit (.bool true)], args := [d] }
  | _ => none }
def fnExactCounterGapsRow : OpenClaim := { program := "ytdaopbdjbpopiaa", sum := "c785eb67c5907395a7d5b8f7513f909e2728825f3fcc0e2bcd1022ee12d453e3", func := "loop.example/g00897/laws.FnExactCounterGaps", spec := "fnExactCounterGaps", apart := false }
def FnExactCounterGapsSaid : Prop := fnExactCounterGapsRow.holds Try.pinned (OpenSpec.ofChange fnExactCounterGapsSpec)

/-- ITS FALSE NEIGHBOUR: 'it returns false'. Refute it at one input. -/
def fnExactCounterGapsWrong : ChangeSpec := { name := "fnExactCounterGaps", fn := fun _ => fun
  | [d] => { results := [.lit (.bool false)], args := [d] }
  | _ => none }
def FnExactCounterGapsWrongFalsely : Prop := fnExactCounterGapsRow.holds Try.pinned (OpenSpec.ofChange fnExactCounterGapsWrong)

/- THE SECOND FORM. 'bulk': how many values and letters a reading holds, each counted each time it is reached (what is shared counts as often as it is met; a slice's spare places count too). A statement '..UptoSaid' is the law's where the arguments, and the package variables that the reading takes, are together of bulk at most 1048576: NARROWER than '..Said'. Prove '..Said' where nothing that the law and all that it calls make is longer than what came in: it says more and counts as full. Else prove '..UptoSaid'. A law counts once. -/
mutual
def uptoBulk {H : Type} : DataW H → Nat
  | .lit (.string bytes) => bytes.length + 1
  | .lit _ => 1
  | .nil => 1
  | .ptr d => uptoBulk d + 1
  | .slice elems spare => uptoBulkAll elems + uptoBulkAll spare + 1
  | .agg parts => uptoBulkAll parts + 1
  | .iface _ d => uptoBulk d + 1
  | .map entries => uptoBulkEntries entries + 1
  | .held _ => 1
def uptoBulkAll {H : Type} : List (DataW H) → Nat
  | [] => 0
  | d :: r => uptoBulk d + uptoBulkAll r
def uptoBulkEntries {H : Type} : List (Lit × DataW H) → Nat
  | [] => 0
  | x :: r => uptoBulkEntry x + uptoBulkEntries r
def uptoBulkEntry {H : Type} : Lit × DataW H → Nat
  | (.string bytes, d) => bytes.length + uptoBulk d + 1
  | (_, d) => uptoBulk d + 1
 end
def uptoSmall : (H : Type) → List (DataW H) → Bool := fun _ ds => decide (uptoBulkAll ds ≤ 1048576)
def OpenSpec.upto (s : _root_.Go.ChangeSpec) : _root_.Go.OpenSpec := { _root_.Go.OpenSpec.ofChange s with cond := some uptoSmall }

/-- 'laws.FnExactRiskGroups', WHERE WHAT IT READS IS OF BULK AT MOST 1048576: true; the input reads as it did. -/
def fnExactRiskGroupsUptoRow : OpenClaim := { program := "ytdaopbdjbpopiaa", sum := "c785eb67c5907395a7d5b8f7513f909e2728825f3fcc0e2bcd1022ee12d453e3", func := "loop.example/g00897/laws.FnExactRiskGroups", spec := "fnExactRiskGroups", apart := false, narrowed := true }
def FnExactRiskGroupsUptoSaid : Prop := fnExactRiskGroupsUptoRow.holds Try.pinned (OpenSpec.upto fnExactRiskGroupsSpec)

/-- 'laws.FnExactRiskDisjoint', WHERE WHAT IT READS IS OF BULK AT MOST 1048576: true; the input reads as it did. -/
def fnExactRiskDisjointUptoRow : OpenClaim := { program := "ytdaopbdjbpopiaa", sum := "c785eb67c5907395a7d5b8f7513f909e2728825f3fcc0e2bcd1022ee12d453e3", func := "loop.example/g00897/laws.FnExactRiskDisjoint", spec := "fnExactRiskDisjoint", apart := false, narrowed := true }
def FnExactRiskDisjointUptoSaid : Prop := fnExactRiskDisjointUptoRow.holds Try.pinned (OpenSpec.upto fnExactRiskDisjointSpec)

/-- 'laws.FnExactCompareRoutes', WHERE WHAT IT READS IS OF BULK AT MOST 1048576: true; the input reads as it did. -/
def fnExactCompareRoutesUptoRow : OpenClaim := { program := "ytdaopbdjbpopiaa", sum := "c785eb67c5907395a7d5b8f7513f909e2728825f3fcc0e2bcd1022ee12d453e3", func := "loop.example/g00897/laws.FnExactCompareRoutes", spec := "fnExactCompareRoutes", recurses := true, apart := false, narrowed := true }
def FnExactCompareRoutesUptoSaid : Prop := fnExactCompareRoutesUptoRow.holds Try.pinned (OpenSpec.upto fnExactCompareRoutesSpec)

/-- 'laws.FnExactRoutesThrough', WHERE WHAT IT READS IS OF BULK AT MOST 1048576: true; the input reads as it did. -/
def fnExactRoutesThroughUptoRow : OpenClaim := { program := "ytdaopbdjbpopiaa", sum := "c785eb67c5907395a7d5b8f7513f909e2728825f3fcc0e2bcd1022ee12d453e3", func := "loop.example/g00897/laws.FnExactRoutesThrough", spec := "fnExactRoutesThrough", apart := false, narrowed := true }
def FnExactRoutesThroughUptoSaid : Prop := fnExactRoutesThroughUptoRow.holds Try.pinned (OpenSpec.upto fnExactRoutesThroughSpec)

/-- 'laws.FnExactJoinRoutes', WHERE WHAT IT READS IS OF BULK AT MOST 1048576: true; the input reads as it did. -/
def fnExactJoinRoutesUptoRow : OpenClaim := { program := "ytdaopbdjbpopiaa", sum := "c785eb67c5907395a7d5b8f7513f909e2728825f3fcc0e2bcd1022ee12d453e3", func := "loop.example/g00897/laws.FnExactJoinRoutes", spec := "fnExactJoinRoutes", apart := false, narrowed := true }
def FnExactJoinRoutesUptoSaid : Prop := fnExactJoinRoutesUptoRow.holds Try.pinned (OpenSpec.upto fnExactJoinRoutesSpec)

/-- 'laws.FnExactRegeneratorsFor', WHERE WHAT IT READS IS OF BULK AT MOST 1048576: true; the input reads as it did. -/
def fnExactRegeneratorsForUptoRow : OpenClaim := { program := "ytdaopbdjbpopiaa", sum := "c785eb67c5907395a7d5b8f7513f909e2728825f3fcc0e2bcd1022ee12d453e3", func := "loop.example/g00897/laws.FnExactRegeneratorsFor", spec := "fnExactRegeneratorsFor", apart := false, narrowed := true }
def FnExactRegeneratorsForUptoSaid : Prop := fnExactRegeneratorsForUptoRow.holds Try.pinned (OpenSpec.upto fnExactRegeneratorsForSpec)

/-- 'laws.FnExactSegmentLengths', WHERE WHAT IT READS IS OF BULK AT MOST 1048576: true; the input reads as it did. -/
def fnExactSegmentLengthsUptoRow : OpenClaim := { program := "ytdaopbdjbpopiaa", sum := "c785eb67c5907395a7d5b8f7513f909e2728825f3fcc0e2bcd1022ee12d453e3", func := "loop.example/g00897/laws.FnExactSegmentLengths", spec := "fnExactSegmentLengths", apart := false, narrowed := true }
def FnExactSegmentLengthsUptoSaid : Prop := fnExactSegmentLengthsUptoRow.holds Try.pinned (OpenSpec.upto fnExactSegmentLengthsSpec)

/-- 'laws.FnExactIsValidRequests', WHERE WHAT IT READS IS OF BULK AT MOST 1048576: true; the input reads as it did. -/
def fnExactIsValidRequestsUptoRow : OpenClaim := { program := "ytdaopbdjbpopiaa", sum := "c785eb67c5907395a7d5b8f7513f909e2728825f3fcc0e2bcd1022ee12d453e3", func := "loop.example/g00897/laws.FnExactIsValidRequests", spec := "fnExactIsValidRequests", apart := false, narrowed := true }
def FnExactIsValidRequestsUptoSaid : Prop := fnExactIsValidRequestsUptoRow.holds Try.pinned (OpenSpec.upto fnExactIsValidRequestsSpec)

/-- 'laws.FnExactIsValidPlan', WHERE WHAT IT READS IS OF BULK AT MOST 1048576: true; the input reads as it did. -/
def fnExactIsValidPlanUptoRow : OpenClaim := { program := "ytdaopbdjbpopiaa", sum := "c785eb67c5907395a7d5b8f7513f909e2728825f3fcc0e2bcd1022ee12d453e3", func := "loop.example/g00897/laws.FnExactIsValidPlan", spec := "fnExactIsValidPlan", apart := false, narrowed := true }
def FnExactIsValidPlanUptoSaid : Prop := fnExactIsValidPlanUptoRow.holds Try.pinned (OpenSpec.upto fnExactIsValidPlanSpec)

/-- 'laws.FnExactLightNumber', WHERE WHAT IT READS IS OF BULK AT MOST 1048576: true; the input reads as it did. -/
def fnExactLightNumberUptoRow : OpenClaim := { program := "ytdaopbdjbpopiaa", sum := "c785eb67c5907395a7d5b8f7513f909e2728825f3fcc0e2bcd1022ee12d453e3", func := "loop.example/g00897/laws.FnExactLightNumber", spec := "fnExactLightNumber", apart := false, narrowed := true }
def FnExactLightNumberUptoSaid : Prop := fnExactLightNumberUptoRow.holds Try.pinned (OpenSpec.upto fnExactLightNumberSpec)

/-- 'laws.FnExactPlanHeight', WHERE WHAT IT READS IS OF BULK AT MOST 1048576: true; the input reads as it did. -/
def fnExactPlanHeightUptoRow : OpenClaim := { program := "ytdaopbdjbpopiaa", sum := "c785eb67c5907395a7d5b8f7513f909e2728825f3fcc0e2bcd1022ee12d453e3", func := "loop.example/g00897/laws.FnExactPlanHeight", spec := "fnExactPlanHeight", apart := false, narrowed := true }
def FnExactPlanHeightUptoSaid : Prop := fnExactPlanHeightUptoRow.holds Try.pinned (OpenSpec.upto fnExactPlanHeightSpec)

/-- 'laws.FnExactFiberMasks', WHERE WHAT IT READS IS OF BULK AT MOST 1048576: true; the input reads as it did. -/
def fnExactFiberMasksUptoRow : OpenClaim := { program := "ytdaopbdjbpopiaa", sum := "c785eb67c5907395a7d5b8f7513f909e2728825f3fcc0e2bcd1022ee12d453e3", func := "loop.example/g00897/laws.FnExactFiberMasks", spec := "fnExactFiberMasks", apart := false, narrowed := true }
def FnExactFiberMasksUptoSaid : Prop := fnExactFiberMasksUptoRow.holds Try.pinned (OpenSpec.upto fnExactFiberMasksSpec)

/-- 'laws.FnExactRouteMask', WHERE WHAT IT READS IS OF BULK AT MOST 1048576: true; the input reads as it did. -/
def fnExactRouteMaskUptoRow : OpenClaim := { program := "ytdaopbdjbpopiaa", sum := "c785eb67c5907395a7d5b8f7513f909e2728825f3fcc0e2bcd1022ee12d453e3", func := "loop.example/g00897/laws.FnExactRouteMask", spec := "fnExactRouteMask", apart := false, narrowed := true }
def FnExactRouteMaskUptoSaid : Prop := fnExactRouteMaskUptoRow.holds Try.pinned (OpenSpec.upto fnExactRouteMaskSpec)

/-- 'laws.FnExactIsValidGrowth', WHERE WHAT IT READS IS OF BULK AT MOST 1048576: true; the input reads as it did. -/
def fnExactIsValidGrowthUptoRow : OpenClaim := { program := "ytdaopbdjbpopiaa", sum := "c785eb67c5907395a7d5b8f7513f909e2728825f3fcc0e2bcd1022ee12d453e3", func := "loop.example/g00897/laws.FnExactIsValidGrowth", spec := "fnExactIsValidGrowth", apart := false, narrowed := true }
def FnExactIsValidGrowthUptoSaid : Prop := fnExactIsValidGrowthUptoRow.holds Try.pinned (OpenSpec.upto fnExactIsValidGrowthSpec)

/-- 'laws.FnExactActiveGrowth', WHERE WHAT IT READS IS OF BULK AT MOST 1048576: true; the input reads as it did. -/
def fnExactActiveGrowthUptoRow : OpenClaim := { program := "ytdaopbdjbpopiaa", sum := "c785eb67c5907395a7d5b8f7513f909e2728825f3fcc0e2bcd1022ee12d453e3", func := "loop.example/g00897/laws.FnExactActiveGrowth", spec := "fnExactActiveGrowth", apart := false, narrowed := true }
def FnExactActiveGrowthUptoSaid : Prop := fnExactActiveGrowthUptoRow.holds Try.pinned (OpenSpec.upto fnExactActiveGrowthSpec)

/-- 'laws.FnExactTrafficBetween', WHERE WHAT IT READS IS OF BULK AT MOST 1048576: true; the input reads as it did. -/
def fnExactTrafficBetweenUptoRow : OpenClaim := { program := "ytdaopbdjbpopiaa", sum := "c785eb67c5907395a7d5b8f7513f909e2728825f3fcc0e2bcd1022ee12d453e3", func := "loop.example/g00897/laws.FnExactTrafficBetween", spec := "fnExactTrafficBetween", apart := false, narrowed := true }
def FnExactTrafficBetweenUptoSaid : Prop := fnExactTrafficBetweenUptoRow.holds Try.pinned (OpenSpec.upto fnExactTrafficBetweenSpec)

/-- 'laws.FnExactCounterGaps', WHERE WHAT IT READS IS OF BULK AT MOST 1048576: true; the input reads as it did. -/
def fnExactCounterGapsUptoRow : OpenClaim := { program := "ytdaopbdjbpopiaa", sum := "c785eb67c5907395a7d5b8f7513f909e2728825f3fcc0e2bcd1022ee12d453e3", func := "loop.example/g00897/laws.FnExactCounterGaps", spec := "fnExactCounterGaps", apart := false, narrowed := true }
def FnExactCounterGapsUptoSaid : Prop := fnExactCounterGapsUptoRow.holds Try.pinned (OpenSpec.upto fnExactCounterGapsSpec)

end Rows
end Go.Proofs.Ytdaopbdjbpopiaa
