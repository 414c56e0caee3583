/-
  No cell of these rows narrows 'for every input' (looked for: loops, veiled, ifaces, maps, wideKeys, modest, calm, conditions, laid).
  DERIVED. THE GIVEN ROWS OF THIS SEAT. 12 by the template 'for every input the law returns true; each argument reads behind the call as it read before'; 0 by the template 'total and deterministic' (their statements: YteihdnjdpiejmaaTotals.lean).
  GIVEN WITH THE SEED: the statements are not yours to turn. If you find one false, say at which input.
  Laid BY PROGRAM, IN A SANDBOX (cutbox-rows.mjs): the forced cells as the released guide's own fill.sh prints them over the translation e5bb2b226eab3f4d… (all of the seat's roots in one cut). By AI agents, Wed Nov 11 2026. No macro, syntax, notation, axiom, sorry.
-/
import Derived.Test.YteihdnjdpiejmaaChecked
import GoSem.Claim
import GoSem.ClaimJoined
import GoSem.ClaimMapViews
import Derived.JoinedTies
import Derived.KernelRfl
namespace Go.Proofs.Yteihdnjdpiejmaa
/- THE CELL 'sum', in the pinned program and in every row, IS THE sha256 OF THE DUMP (.gsa) THAT YteihdnjdpiejmaaProg.lean LOADS. Nothing in Lean hashes anything: it is a label: what it is worth is what the hold of that sum in a sandbox is worth. -/
noncomputable def Try.pinned : Pinned := { name := "yteihdnjdpiejmaa", sum := "e5bb2b226eab3f4d471663eb0d311e40968baab1c5582d7d3330e99df03139b4", checked := Try.checked }
namespace Rows
def none {H : Type} : Left H := { results := [], args := [] }

/-- 'laws.FnExactIsValidTributaries': WHATEVER THE INPUT: true; the input reads as it did. -/
def fnExactIsValidTributariesSpec : ChangeSpec := { name := "fnExactIsValidTributaries", fn := fun _ => fun
  | [d1, d2] => { results := [.lit (.bool true)], args := [d1, d2] }
  | _ => none }
def fnExactIsValidTributariesRow : OpenClaim := { program := "yteihdnjdpiejmaa", sum := "e5bb2b226eab3f4d471663eb0d311e40968baab1c5582d7d3330e99df03139b4", func := "loop.example/g00897/laws.FnExactIsValidTributaries", spec := "fnExactIsValidTributaries", plainKeys := false, apart := false }
def FnExactIsValidTributariesSaid : Prop := fnExactIsValidTributariesRow.holds Try.pinned (OpenSpec.ofChange fnExactIsValidTributariesSpec)

/-- ITS FALSE NEIGHBOUR: 'it returns false'. Refute it at one input. -/
def fnExactIsValidTributariesWrong : ChangeSpec := { name := "fnExactIsValidTributaries", fn := fun _ => fun
  | [d1, d2] => { results := [.lit (.bool false)], args := [d1, d2] }
  | _ => none }
def FnExactIsValidTributariesWrongFalsely : Prop := fnExactIsValidTributariesRow.holds Try.pinned (OpenSpec.ofChange fnExactIsValidTributariesWrong)

/-- 'laws.FnExactCostOf': WHATEVER THE INPUT: true; the input reads as it did. -/
def fnExactCostOfSpec : ChangeSpec := { name := "fnExactCostOf", fn := fun _ => fun
  | [d1, d2] => { results := [.lit (.bool true)], args := [d1, d2] }
  | _ => none }
def fnExactCostOfRow : OpenClaim := { program := "yteihdnjdpiejmaa", sum := "e5bb2b226eab3f4d471663eb0d311e40968baab1c5582d7d3330e99df03139b4", func := "loop.example/g00897/laws.FnExactCostOf", spec := "fnExactCostOf", unfollowed := true, recurses := true, plainKeys := false, apart := false }
def FnExactCostOfSaid : Prop := fnExactCostOfRow.holds Try.pinned (OpenSpec.ofChange fnExactCostOfSpec)

/-- ITS FALSE NEIGHBOUR: 'it returns false'. Refute it at one input. -/
def fnExactCostOfWrong : ChangeSpec := { name := "fnExactCostOf", fn := fun _ => fun
  | [d1, d2] => { results := [.lit (.bool false)], args := [d1, d2] }
  | _ => none }
def FnExactCostOfWrongFalsely : Prop := fnExactCostOfRow.holds Try.pinned (OpenSpec.ofChange fnExactCostOfWrong)

/-- 'laws.FnExactMissingItems': WHATEVER THE INPUT: true; the input reads as it did. -/
def fnExactMissingItemsSpec : ChangeSpec := { name := "fnExactMissingItems", fn := fun _ => fun
  | [d1, d2] => { results := [.lit (.bool true)], args := [d1, d2] }
  | _ => none }
def fnExactMissingItemsRow : OpenClaim := { program := "yteihdnjdpiejmaa", sum := "e5bb2b226eab3f4d471663eb0d311e40968baab1c5582d7d3330e99df03139b4", func := "loop.example/g00897/laws.FnExactMissingItems", spec := "fnExactMissingItems", unfollowed := true, recurses := true, plainKeys := false, apart := false }
def FnExactMissingItemsSaid : Prop := fnExactMissingItemsRow.holds Try.pinned (OpenSpec.ofChange fnExactMissingItemsSpec)

/-- ITS FALSE NEIGHBOUR: 'it returns false'. Refute it at one input. -/
def fnExactMissingItemsWrong : ChangeSpec := { name := "fnExactMissingItems", fn := fun _ => fun
  | [d1, d2] => { results := [.lit (.bool false)], args := [d1, d2] }
  | _ => none }
def FnExactMissingItemsWrongFalsely : Prop := fnExactMissingItemsRow.holds Try.pinned (OpenSpec.ofChange fnExactMissingItemsWrong)

/-- 'laws.FnExactPackInOrder': WHATEVER THE INPUT: true; the input reads as it did. -/
def fnExactPackInOrderSpec : ChangeSpec := { name := "fnExactPackInOrder", fn := fun _ => fun
  | [d1, d2] => { results := [.lit (.bool true)], args := [d1, d2] }
  | _ => none }
def fnExactPackInOrderRow : OpenClaim := { program := "yteihdnjdpiejmaa", sum := "e5bb2b226eab3f4d471663eb0d311e40968baab1c5582d7d3330e99df03139b4", func := "loop.example/g00897/laws.FnExactPackInOrder", spec := "fnExactPackInOrder", plainKeys := false, apart := false }
def FnExactPackInOrderSaid : Prop := fnExactPackInOrderRow.holds Try.pinned (OpenSpec.ofChange fnExactPackInOrderSpec)

/-- ITS FALSE NEIGHBOUR: 'it returns false'. Refute it at one input. -/
def fnExactPackInOrderWrong : ChangeSpec := { name := "fnExactPackInOrder", fn := fun _ => fun
  | [d1, d2] => { results := [.lit (.bool false)], args := [d1, d2] }
  | _ => none }
def FnExactPackInOrderWrongFalsely : Prop := fnExactPackInOrderRow.holds Try.pinned (OpenSpec.ofChange fnExactPackInOrderWrong)

/-- 'laws.FnExactLinkLoads': WHATEVER THE INPUT: true; the input reads as it did. -/
def fnExactLinkLoadsSpec : ChangeSpec := { name := "fnExactLinkLoads", fn := fun _ => fun
  | [d1, d2, d3, d4] => { results := [.lit (.bool true)], args := [d1, d2, d3, d4] }
  | _ => none }
def fnExactLinkLoadsRow : OpenClaim := { program := "yteihdnjdpiejmaa", sum := "e5bb2b226eab3f4d471663eb0d311e40968baab1c5582d7d3330e99df03139b4", func := "loop.example/g00897/laws.FnExactLinkLoads", spec := "fnExactLinkLoads", plainKeys := false, apart := false }
def FnExactLinkLoadsSaid : Prop := fnExactLinkLoadsRow.holds Try.pinned (OpenSpec.ofChange fnExactLinkLoadsSpec)

/-- ITS FALSE NEIGHBOUR: 'it returns false'. Refute it at one input. -/
def fnExactLinkLoadsWrong : ChangeSpec := { name := "fnExactLinkLoads", fn := fun _ => fun
  | [d1, d2, d3, d4] => { results := [.lit (.bool false)], args := [d1, d2, d3, d4] }
  | _ => none }
def FnExactLinkLoadsWrongFalsely : Prop := fnExactLinkLoadsRow.holds Try.pinned (OpenSpec.ofChange fnExactLinkLoadsWrong)

/-- 'laws.FnExactIsValidRoute': WHATEVER THE INPUT: true; the input reads as it did. -/
def fnExactIsValidRouteSpec : ChangeSpec := { name := "fnExactIsValidRoute", fn := fun _ => fun
  | [d1, d2] => { results := [.lit (.bool true)], args := [d1, d2] }
  | _ => none }
def fnExactIsValidRouteRow : OpenClaim := { program := "yteihdnjdpiejmaa", sum := "e5bb2b226eab3f4d471663eb0d311e40968baab1c5582d7d3330e99df03139b4", func := "loop.example/g00897/laws.FnExactIsValidRoute", spec := "fnExactIsValidRoute", plainKeys := false, apart := false }
def FnExactIsValidRouteSaid : Prop := fnExactIsValidRouteRow.holds Try.pinned (OpenSpec.ofChange fnExactIsValidRouteSpec)

/-- ITS FALSE NEIGHBOUR: 'it returns false'. Refute it at one input. -/
def fnExactIsValidRouteWrong : ChangeSpec := { name := "fnExactIsValidRoute", fn := fun _ => fun
  | [d1, d2] => { results := [.lit (.bool false)], args := [d1, d2] }
  | _ => none }
def FnExactIsValidRouteWrongFalsely : Prop := fnExactIsValidRouteRow.holds Try.pinned (OpenSpec.ofChange fnExactIsValidRouteWrong)

/-- 'laws.FnExactRouteNodes': WHATEVER THE INPUT: true; the input reads as it did. -/
def fnExactRouteNodesSpec : ChangeSpec := { name := "fnExactRouteNodes", fn := fun _ => fun
  | [d1, d2] => { results := [.lit (.bool true)], args := [d1, d2] }
  | _ => none }
def fnExactRouteNodesRow : OpenClaim := { program := "yteihdnjdpiejmaa", sum := "e5bb2b226eab3f4d471663eb0d311e40968baab1c5582d7d3330e99df03139b4", func := "loop.example/g00897/laws.FnExactRouteNodes", spec := "fnExactRouteNodes", plainKeys := false, apart := false }
def FnExactRouteNodesSaid : Prop := fnExactRouteNodesRow.holds Try.pinned (OpenSpec.ofChange fnExactRouteNodesSpec)

/-- ITS FALSE NEIGHBOUR: 'it returns false'. Refute it at one input. -/
def fnExactRouteNodesWrong : ChangeSpec := { name := "fnExactRouteNodes", fn := fun _ => fun
  | [d1, d2] => { results := [.lit (.bool false)], args := [d1, d2] }
  | _ => none }
def FnExactRouteNodesWrongFalsely : Prop := fnExactRouteNodesRow.holds Try.pinned (OpenSpec.ofChange fnExactRouteNodesWrong)

/-- 'laws.FnExactRouteLength': WHATEVER THE INPUT: true; the input reads as it did. -/
def fnExactRouteLengthSpec : ChangeSpec := { name := "fnExactRouteLength", fn := fun _ => fun
  | [d1, d2] => { results := [.lit (.bool true)], args := [d1, d2] }
  | _ => none }
def fnExactRouteLengthRow : OpenClaim := { program := "yteihdnjdpiejmaa", sum := "e5bb2b226eab3f4d471663eb0d311e40968baab1c5582d7d3330e99df03139b4", func := "loop.example/g00897/laws.FnExactRouteLength", spec := "fnExactRouteLength", plainKeys := false, apart := false }
def FnExactRouteLengthSaid : Prop := fnExactRouteLengthRow.holds Try.pinned (OpenSpec.ofChange fnExactRouteLengthSpec)

/-- ITS FALSE NEIGHBOUR: 'it returns false'. Refute it at one input. -/
def fnExactRouteLengthWrong : ChangeSpec := { name := "fnExactRouteLength", fn := fun _ => fun
  | [d1, d2] => { results := [.lit (.bool false)], args := [d1, d2] }
  | _ => none }
def FnExactRouteLengthWrongFalsely : Prop := fnExactRouteLengthRow.holds Try.pinned (OpenSpec.ofChange fnExactRouteLengthWrong)

/-- 'laws.FnExactReverseRoute': WHATEVER THE INPUT: true; the input reads as it did. -/
def fnExactReverseRouteSpec : ChangeSpec := { name := "fnExactReverseRoute", fn := fun _ => fun
  | [d1, d2] => { results := [.lit (.bool true)], args := [d1, d2] }
  | _ => none }
def fnExactReverseRouteRow : OpenClaim := { program := "yteihdnjdpiejmaa", sum := "e5bb2b226eab3f4d471663eb0d311e40968baab1c5582d7d3330e99df03139b4", func := "loop.example/g00897/laws.FnExactReverseRoute", spec := "fnExactReverseRoute", plainKeys := false, apart := false }
def FnExactReverseRouteSaid : Prop := fnExactReverseRouteRow.holds Try.pinned (OpenSpec.ofChange fnExactReverseRouteSpec)

/-- ITS FALSE NEIGHBOUR: 'it returns false'. Refute it at one input. -/
def fnExactReverseRouteWrong : ChangeSpec := { name := "fnExactReverseRoute", fn := fun _ => fun
  | [d1, d2] => { results := [.lit (.bool false)], args := [d1, d2] }
  | _ => none }
def FnExactReverseRouteWrongFalsely : Prop := fnExactReverseRouteRow.holds Try.pinned (OpenSpec.ofChange fnExactReverseRouteWrong)

/-- 'laws.FnExactRiskGroups': WHATEVER THE INPUT: true; the input reads as it did. -/
def fnExactRiskGroupsSpec : ChangeSpec := { name := "fnExactRiskGroups", fn := fun _ => fun
  | [d] => { results := [.lit (.bool true)], args := [d] }
  | _ => none }
def fnExactRiskGroupsRow : OpenClaim := { program := "yteihdnjdpiejmaa", sum := "e5bb2b226eab3f4d471663eb0d311e40968baab1c5582d7d3330e99df03139b4", func := "loop.example/g00897/laws.FnExactRiskGroups", spec := "fnExactRiskGroups", plainKeys := false, apart := false }
def FnExactRiskGroupsSaid : Prop := fnExactRiskGroupsRow.holds Try.pinned (OpenSpec.ofChange fnExactRiskGroupsSpec)

/-- ITS FALSE NEIGHBOUR: 'it returns false'. Refute it at one input. -/
def fnExactRiskGroupsWrong : ChangeSpec := { name := "fnExactRiskGroups", fn := fun _ => fun
  | [d] => { results := [.lit (.bool false)], args := [d] }
  | _ => none }
def FnExactRiskGroupsWrongFalsely : Prop := fnExactRiskGroupsRow.holds Try.pinned (OpenSpec.ofChange fnExactRiskGroupsWrong)

/-- 'laws.FnExactRemoveFibers': WHATEVER THE INPUT: true; the input reads as it did. -/
def fnExactRemoveFibersSpec : ChangeSpec := { name := "fnExactRemoveFibers", fn := fun _ => fun
  | [d1, d2] => { results := [.lit (.bool true)], args := [d1, d2] }
  | _ => none }
def fnExactRemoveFibersRow : OpenClaim := { program := "yteihdnjdpiejmaa", sum := "e5bb2b226eab3f4d471663eb0d311e40968baab1c5582d7d3330e99df03139b4", func := "loop.example/g00897/laws.FnExactRemoveFibers", spec := "fnExactRemoveFibers", plainKeys := false, apart := false }
def FnExactRemoveFibersSaid : Prop := fnExactRemoveFibersRow.holds Try.pinned (OpenSpec.ofChange fnExactRemoveFibersSpec)

/-- ITS FALSE NEIGHBOUR: 'it returns false'. Refute it at one input. -/
def fnExactRemoveFibersWrong : ChangeSpec := { name := "fnExactRemoveFibers", fn := fun _ => fun
  | [d1, d2] => { results := [.lit (.bool false)], args := [d1, d2] }
  | _ => none }
def FnExactRemoveFibersWrongFalsely : Prop := fnExactRemoveFibersRow.holds Try.pinned (OpenSpec.ofChange fnExactRemoveFibersWrong)

/-- 'laws.FnExactIsValidPlan': WHATEVER THE INPUT: true; the input reads as it did. -/
def fnExactIsValidPlanSpec : ChangeSpec := { name := "fnExactIsValidPlan", fn := fun _ => fun
  | [d] => { results := [.lit (.bool true)], args := [d] }
  | _ => none }
def fnExactIsValidPlanRow : OpenClaim := { program := "yteihdnjdpiejmaa", sum := "e5bb2b226eab3f4d471663eb0d311e40968baab1c5582d7d3330e99df03139b4", func := "loop.example/g00897/laws.FnExactIsValidPlan", spec := "fnExactIsValidPlan", plainKeys := false, apart := false }
def FnExactIsValidPlanSaid : Prop := fnExactIsValidPlanRow.holds Try.pinned (OpenSpec.ofChange fnExactIsValidPlanSpec)

/-- ITS FALSE NEIGHBOUR: 'it returns false'. Refute it at one input. -/
def fnExactIsValidPlanWrong : ChangeSpec := { name := "fnExactIsValidPlan", fn := fun _ => fun
  | [d] => { results := [.lit (.bool false)], args := [d] }
  | _ => none }
def FnExactIsValidPlanWrongFalsely : Prop := fnExactIsValidPlanRow.holds Try.pinned (OpenSpec.ofChange fnExactIsValidPlanWrong)

/- THE SECOND FORM. 'bulk': how many values and letters a reading holds, each counted each time it is reached (what is shared counts as often as it is met; a slice's spare places count too). A statement '..UptoSaid' is the law's where the arguments, and the package variables that the reading takes, are together of bulk at most 1048576: NARROWER than '..Said'. Prove '..Said' where nothing that the law and all that it calls make is longer than what came in: it says more and counts as full. Else prove '..UptoSaid'. A law counts once. -/
mutual
def uptoBulk {H : Type} : DataW H → Nat
  | .lit (.string bytes) => bytes.length + 1
  | .lit _ => 1
  | .nil => 1
  | .ptr d => uptoBulk d + 1
  | .slice elems spare => uptoBulkAll elems + uptoBulkAll spare + 1
  | .agg parts => uptoBulkAll parts + 1
  | .iface _ d => uptoBulk d + 1
  | .map entries => uptoBulkEntries entries + 1
  | .held _ => 1
def uptoBulkAll {H : Type} : List (DataW H) → Nat
  | [] => 0
  | d :: r => uptoBulk d + uptoBulkAll r
def uptoBulkEntries {H : Type} : List (Lit × DataW H) → Nat
  | [] => 0
  | x :: r => uptoBulkEntry x + uptoBulkEntries r
def uptoBulkEntry {H : Type} : Lit × DataW H → Nat
  | (.string bytes, d) => bytes.length + uptoBulk d + 1
  | (_, d) => uptoBulk d + 1
 end
def uptoSmall : (H : Type) → List (DataW H) → Bool := fun _ ds => decide (uptoBulkAll ds ≤ 1048576)
def OpenSpec.upto (s : _root_.Go.ChangeSpec) : _root_.Go.OpenSpec := { _root_.Go.OpenSpec.ofChange s with cond := some uptoSmall }

/-- 'laws.FnExactIsValidTributaries', WHERE WHAT IT READS IS OF BULK AT MOST 1048576: true; the input reads as it did. -/
def fnExactIsValidTributariesUptoRow : OpenClaim := { program := "yteihdnjdpiejmaa", sum := "e5bb2b226eab3f4d471663eb0d311e40968baab1c5582d7d3330e99df03139b4", func := "loop.example/g00897/laws.FnExactIsValidTributaries", spec := "fnExactIsValidTributaries", plainKeys := false, apart := false, narrowed := true }
def FnExactIsValidTributariesUptoSaid : Prop := fnExactIsValidTributariesUptoRow.holds Try.pinned (OpenSpec.upto fnExactIsValidTributariesSpec)

/-- 'laws.FnExactCostOf', WHERE WHAT IT READS IS OF BULK AT MOST 1048576: true; the input reads as it did. -/
def fnExactCostOfUptoRow : OpenClaim := { program := "yteihdnjdpiejmaa", sum := "e5bb2b226eab3f4d471663eb0d311e40968baab1c5582d7d3330e99df03139b4", func := "loop.example/g00897/laws.FnExactCostOf", spec := "fnExactCostOf", unfollowed := true, recurses := true, plainKeys := false, apart := false, narrowed := true }
def FnExactCostOfUptoSaid : Prop := fnExactCostOfUptoRow.holds Try.pinned (OpenSpec.upto fnExactCostOfSpec)

/-- 'laws.FnExactMissingItems', WHERE WHAT IT READS IS OF BULK AT MOST 1048576: true; the input reads as it did. -/
def fnExactMissingItemsUptoRow : OpenClaim := { program := "yteihdnjdpiejmaa", sum := "e5bb2b226eab3f4d471663eb0d311e40968baab1c5582d7d3330e99df03139b4", func := "loop.example/g00897/laws.FnExactMissingItems", spec := "fnExactMissingItems", unfollowed := true, recurses := true, plainKeys := false, apart := false, narrowed := true }
def FnExactMissingItemsUptoSaid : Prop := fnExactMissingItemsUptoRow.holds Try.pinned (OpenSpec.upto fnExactMissingItemsSpec)

/-- 'laws.FnExactPackInOrder', WHERE WHAT IT READS IS OF BULK AT MOST 1048576: true; the input reads as it did. -/
def fnExactPackInOrderUptoRow : OpenClaim := { program := "yteihdnjdpiejmaa", sum := "e5bb2b226eab3f4d471663eb0d311e40968baab1c5582d7d3330e99df03139b4", func := "loop.example/g00897/laws.FnExactPackInOrder", spec := "fnExactPackInOrder", plainKeys := false, apart := false, narrowed := true }
def FnExactPackInOrderUptoSaid : Prop := fnExactPackInOrderUptoRow.holds Try.pinned (OpenSpec.upto fnExactPackInOrderSpec)

/-- 'laws.FnExactLinkLoads', WHERE WHAT IT READS IS OF BULK AT MOST 1048576: true; the input reads as it did. -/
def fnExactLinkLoadsUptoRow : OpenClaim := { program := "yteihdnjdpiejmaa", sum := "e5bb2b226eab3f4d471663eb0d311e40968baab1c5582d7d3330e99df03139b4", func := "loop.example/g00897/laws.FnExactLinkLoads", spec := "fnExactLinkLoads", plainKeys := false, apart := false, narrowed := true }
def FnExactLinkLoadsUptoSaid : Prop := fnExactLinkLoadsUptoRow.holds Try.pinned (OpenSpec.upto fnExactLinkLoadsSpec)

/-- 'laws.FnExactIsValidRoute', WHERE WHAT IT READS IS OF BULK AT MOST 1048576: true; the input reads as it did. -/
def fnExactIsValidRouteUptoRow : OpenClaim := { program := "yteihdnjdpiejmaa", sum := "e5bb2b226eab3f4d471663eb0d311e40968baab1c5582d7d3330e99df03139b4", func := "loop.example/g00897/laws.FnExactIsValidRoute", spec := "fnExactIsValidRoute", plainKeys := false, apart := false, narrowed := true }
def FnExactIsValidRouteUptoSaid : Prop := fnExactIsValidRouteUptoRow.holds Try.pinned (OpenSpec.upto fnExactIsValidRouteSpec)

/-- 'laws.FnExactRouteNodes', WHERE WHAT IT READS IS OF BULK AT MOST 1048576: true; the input reads as it did. -/
def fnExactRouteNodesUptoRow : OpenClaim := { program := "yteihdnjdpiejmaa", sum := "e5bb2b226eab3f4d471663eb0d311e40968baab1c5582d7d3330e99df03139b4", func := "loop.example/g00897/laws.FnExactRouteNodes", spec := "fnExactRouteNodes", plainKeys := false, apart := false, narrowed := true }
def FnExactRouteNodesUptoSaid : Prop := fnExactRouteNodesUptoRow.holds Try.pinned (OpenSpec.upto fnExactRouteNodesSpec)

/-- 'laws.FnExactRouteLength', WHERE WHAT IT READS IS OF BULK AT MOST 1048576: true; the input reads as it did. -/
def fnExactRouteLengthUptoRow : OpenClaim := { program := "yteihdnjdpiejmaa", sum := "e5bb2b226eab3f4d471663eb0d311e40968baab1c5582d7d3330e99df03139b4", func := "loop.example/g00897/laws.FnExactRouteLength", spec := "fnExactRouteLength", plainKeys := false, apart := false, narrowed := true }
def FnExactRouteLengthUptoSaid : Prop := fnExactRouteLengthUptoRow.holds Try.pinned (OpenSpec.upto fnExactRouteLengthSpec)

/-- 'laws.FnExactReverseRoute', WHERE WHAT IT READS IS OF BULK AT MOST 1048576: true; the input reads as it did. -/
def fnExactReverseRouteUptoRow : OpenClaim := { program := "yteihdnjdpiejmaa", sum := "e5bb2b226eab3f4d471663eb0d311e40968baab1c5582d7d3330e99df03139b4", func := "loop.example/g00897/laws.FnExactReverseRoute", spec := "fnExactReverseRoute", plainKeys := false, apart := false, narrowed := true }
def FnExactReverseRouteUptoSaid : Prop := fnExactReverseRouteUptoRow.holds Try.pinned (OpenSpec.upto fnExactReverseRouteSpec)

/-- 'laws.FnExactRiskGroups', WHERE WHAT IT READS IS OF BULK AT MOST 1048576: true; the input reads as it did. -/
def fnExactRiskGroupsUptoRow : OpenClaim := { program := "yteihdnjdpiejmaa", sum := "e5bb2b226eab3f4d471663eb0d311e40968baab1c5582d7d3330e99df03139b4", func := "loop.example/g00897/laws.FnExactRiskGroups", spec := "fnExactRiskGroups", plainKeys := false, apart := false, narrowed := true }
def FnExactRiskGroupsUptoSaid : Prop := fnExactRiskGroupsUptoRow.holds Try.pinned (OpenSpec.upto fnExactRiskGroupsSpec)

/-- 'laws.FnExactRemoveFibers', WHERE WHAT IT READS IS OF BULK AT MOST 1048576: true; the input reads as it did. -/
def fnExactRemoveFibersUptoRow : OpenClaim := { program := "yteihdnjdpiejmaa", sum := "e5bb2b226eab3f4d471663eb0d311e40968baab1c5582d7d3330e99df03139b4", func := "loop.example/g00897/laws.FnExactRemoveFibers", spec := "fnExactRemoveFibers", plainKeys := false, apart := false, narrowed := true }
def FnExactRemoveFibersUptoSaid : Prop := fnExactRemoveFibersUptoRow.holds Try.pinned (OpenSpec.upto fnExactRemoveFibersSpec)

/-- 'laws.FnExactIsValidPlan', WHERE WHAT IT READS IS OF BULK AT MOST 1048576: true; the input reads as it did. -/
def fnExactIsValidPlanUptoRow : OpenClaim := { program := "yteihdnjdpiejmaa", sum := "e5bb2b226eab3f4d471663eb0d311e40968baab1c5582d7d3330e99df03139b4", func := "loop.example/g00897/laws.FnExactIsValidPlan", spec := "fnExactIsValidPlan", plainKeys := false, apart := false, narrowed := true }
def FnExactIsValidPlanUptoSaid : Prop := fnExactIsValidPlanUptoRow.holds Try.pinned (OpenSpec.upto fnExactIsValidPlanSpec)

end Rows
end Go.Proofs.Yteihdnjdpiejmaa
