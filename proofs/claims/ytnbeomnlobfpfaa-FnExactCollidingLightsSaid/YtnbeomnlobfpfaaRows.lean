/-
  No cell of these rows narrows 'for every input' (looked for: loops, veiled, ifaces, maps, wideKeys, modest, calm, conditions, laid).
  DERIVED. THE GIVEN ROWS OF THIS SEAT. 10 by the template 'for every input the law returns true; each argument reads behind the call as it read before'; 0 by the template 'total and deterministic' (their statements: YtnbeomnlobfpfaaTotals.lean).
  GIVEN WITH THE SEED: the statements are not yours to turn. If you find one false, say at which input.
  Laid BY PROGRAM, IN A SANDBOX (cutbox-rows.mjs): the forced cells as the released guide's own fill.sh prints them over the translation e5b9e6d6063d9e3a… (all of the seat's roots in one cut). By AI agents, Wed Nov 11 2026. No macro, syntax, notation, axiom, sorry.
-/
import Derived.Test.YtnbeomnlobfpfaaChecked
import GoSem.Claim
import GoSem.ClaimJoined
import GoSem.ClaimMapViews
import Derived.JoinedTies
import Derived.KernelRfl
namespace Go.Proofs.Ytnbeomnlobfpfaa
/- THE CELL 'sum', in the pinned program and in every row, IS THE sha256 OF THE DUMP (.gsa) THAT YtnbeomnlobfpfaaProg.lean LOADS. Nothing in Lean hashes anything: it is a label: what it is worth is what the hold of that sum in a sandbox is worth. -/
noncomputable def Try.pinned : Pinned := { name := "ytnbeomnlobfpfaa", sum := "e5b9e6d6063d9e3a1a691c0567b23e7f2e41412080128aafddad0c4e225edc9c", checked := Try.checked }
namespace Rows
def none {H : Type} : Left H := { results := [], args := [] }

/-- 'laws.FnExactPlanUse': WHATEVER THE INPUT: true; the input reads as it did. -/
def fnExactPlanUseSpec : ChangeSpec := { name := "fnExactPlanUse", fn := fun _ => fun
  | [d] => { results := [.lit (.bool true)], args := [d] }
  | _ => none }
def fnExactPlanUseRow : OpenClaim := { program := "ytnbeomnlobfpfaa", sum := "e5b9e6d6063d9e3a1a691c0567b23e7f2e41412080128aafddad0c4e225edc9c", func := "loop.example/g00897/laws.FnExactPlanUse", spec := "fnExactPlanUse", apart := false }
def FnExactPlanUseSaid : Prop := fnExactPlanUseRow.holds Try.pinned (OpenSpec.ofChange fnExactPlanUseSpec)

/-- ITS FALSE NEIGHBOUR: 'it returns false'. Refute it at one input. -/
def fnExactPlanUseWrong : ChangeSpec := { name := "fnExactPlanUse", fn := fun _ => fun
  | [d] => { results := [.lit (.bool false)], args := [d] }
  | _ => none }
def FnExactPlanUseWrongFalsely : Prop := fnExactPlanUseRow.holds Try.pinned (OpenSpec.ofChange fnExactPlanUseWrong)

/-- 'laws.FnExactConflictPairs': WHATEVER THE INPUT: true; the input reads as it did. -/
def fnExactConflictPairsSpec : ChangeSpec := { name := "fnExactConflictPairs", fn := fun _ => fun
  | [d1, d2] => { results := [.lit (.bool true)], args := [d1, d2] }
  | _ => none }
def fnExactConflictPairsRow : OpenClaim := { program := "ytnbeomnlobfpfaa", sum := "e5b9e6d6063d9e3a1a691c0567b23e7f2e41412080128aafddad0c4e225edc9c", func := "loop.example/g00897/laws.FnExactConflictPairs", spec := "fnExactConflictPairs", apart := false }
def FnExactConflictPairsSaid : Prop := fnExactConflictPairsRow.holds Try.pinned (OpenSpec.ofChange fnExactConflictPairsSpec)

/-- ITS FALSE NEIGHBOUR: 'it returns false'. Refute it at one input. -/
def fnExactConflictPairsWrong : ChangeSpec := { name := "fnExactConflictPairs", fn := fun _ => fun
  | [d1, d2] => { results := [.lit (.bool false)], args := [d1, d2] }
  | _ => none }
def FnExactConflictPairsWrongFalsely : Prop := fnExactConflictPairsRow.holds Try.pinned (OpenSpec.ofChange fnExactConflictPairsWrong)

/-- 'laws.FnExactAreDisjoint': WHATEVER THE INPUT: true; the input reads as it did. -/
def fnExactAreDisjointSpec : ChangeSpec := { name := "fnExactAreDisjoint", fn := fun _ => fun
  | [d1, d2, d3, d4] => { results := [.lit (.bool true)], args := [d1, d2, d3, d4] }
  | _ => none }
def fnExactAreDisjointRow : OpenClaim := { program := "ytnbeomnlobfpfaa", sum := "e5b9e6d6063d9e3a1a691c0567b23e7f2e41412080128aafddad0c4e225edc9c", func := "loop.example/g00897/laws.FnExactAreDisjoint", spec := "fnExactAreDisjoint", unfollowed := true, recurses := true, apart := false }
def FnExactAreDisjointSaid : Prop := fnExactAreDisjointRow.holds Try.pinned (OpenSpec.ofChange fnExactAreDisjointSpec)

/-- ITS FALSE NEIGHBOUR: 'it returns false'. Refute it at one input. -/
def fnExactAreDisjointWrong : ChangeSpec := { name := "fnExactAreDisjoint", fn := fun _ => fun
  | [d1, d2, d3, d4] => { results := [.lit (.bool false)], args := [d1, d2, d3, d4] }
  | _ => none }
def FnExactAreDisjointWrongFalsely : Prop := fnExactAreDisjointRow.holds Try.pinned (OpenSpec.ofChange fnExactAreDisjointWrong)

/-- 'laws.FnExactTrafficBetween': WHATEVER THE INPUT: true; the input reads as it did. -/
def fnExactTrafficBetweenSpec : ChangeSpec := { name := "fnExactTrafficBetween", fn := fun _ => fun
  | [d1, d2] => { results := [.lit (.bool true)], args := [d1, d2] }
  | _ => none }
def fnExactTrafficBetweenRow : OpenClaim := { program := "ytnbeomnlobfpfaa", sum := "e5b9e6d6063d9e3a1a691c0567b23e7f2e41412080128aafddad0c4e225edc9c", func := "loop.example/g00897/laws.FnExactTrafficBetween", spec := "fnExactTrafficBetween", apart := false }
def FnExactTrafficBetweenSaid : Prop := fnExactTrafficBetweenRow.holds Try.pinned (OpenSpec.ofChange fnExactTrafficBetweenSpec)

/-- ITS FALSE NEIGHBOUR: 'it returns false'. Refute it at one input. -/
def fnExactTrafficBetweenWrong : ChangeSpec := { name := "fnExactTrafficBetween", fn := fun _ => fun
  | [d1, d2] => { results := [.lit (.bool false)], args := [d1, d2] }
  | _ => none }
def FnExactTrafficBetweenWrongFalsely : Prop := fnExactTrafficBetweenRow.holds Try.pinned (OpenSpec.ofChange fnExactTrafficBetweenWrong)

/-- 'laws.FnExactCollidingLights': WHATEVER THE INPUT: true; the input reads as it did. -/
def fnExactCollidingLightsSpec : ChangeSpec := { name := "fnExactCollidingLights", fn := fun _ => fun
  | [d1, d2] => { results := [.lit (.bool true)], args := [d1, d2] }
  | _ => none }
def fnExactCollidingLightsRow : OpenClaim := { program := "ytnbeomnlobfpfaa", sum := "e5b9e6d6063d9e3a1a691c0567b23e7f2e41412080128aafddad0c4e225edc9c", func := "loop.example/g00897/laws.FnExactCollidingLights", spec := "fnExactCollidingLights", apart := false }
def FnExactCollidingLightsSaid : Prop := fnExactCollidingLightsRow.holds Try.pinned (OpenSpec.ofChange fnExactCollidingLightsSpec)

/-- ITS FALSE NEIGHBOUR: 'it returns false'. Refute it at one input. -/
def fnExactCollidingLightsWrong : ChangeSpec := { name := "fnExactCollidingLights", fn := fun _ => fun
  | [d1, d2] => { results := [.lit (.bool false)], args := [d1, d2] }
  | _ => none }
def FnExactCollidingLightsWrongFalsely : Prop := fnExactCollidingLightsRow.holds Try.pinned (OpenSpec.ofChange fnExactCollidingLightsWrong)

/-- 'laws.FnExactIsValidGrowth': WHATEVER THE INPUT: true; the input reads as it did. -/
def fnExactIsValidGrowthSpec : ChangeSpec := { name := "fnExactIsValidGrowth", fn := fun _ => fun
  | [d1, d2] => { results := [.lit (.bool true)], args := [d1, d2] }
  | _ => none }
def fnExactIsValidGrowthRow : OpenClaim := { program := "ytnbeomnlobfpfaa", sum := "e5b9e6d6063d9e3a1a691c0567b23e7f2e41412080128aafddad0c4e225edc9c", func := "loop.example/g00897/laws.FnExactIsValidGrowth", spec := "fnExactIsValidGrowth", apart := false }
def FnExactIsValidGrowthSaid : Prop := fnExactIsValidGrowthRow.holds Try.pinned (OpenSpec.ofChange fnExactIsValidGrowthSpec)

/-- ITS FALSE NEIGHBOUR: 'it returns false'. Refute it at one input. -/
def fnExactIsValidGrowthWrong : ChangeSpec := { name := "fnExactIsValidGrowth", fn := fun _ => fun
  | [d1, d2] => { results := [.lit (.bool false)], args := [d1, d2] }
  | _ => none }
def FnExactIsValidGrowthWrongFalsely : Prop := fnExactIsValidGrowthRow.holds Try.pinned (OpenSpec.ofChange fnExactIsValidGrowthWrong)

/-- 'laws.FnExactActiveGrowth': WHATEVER THE INPUT: true; the input reads as it did. -/
def fnExactActiveGrowthSpec : ChangeSpec := { name := "fnExactActiveGrowth", fn := fun _ => fun
  | [d1, d2, d3] => { results := [.lit (.bool true)], args := [d1, d2, d3] }
  | _ => none }
def fnExactActiveGrowthRow : OpenClaim := { program := "ytnbeomnlobfpfaa", sum := "e5b9e6d6063d9e3a1a691c0567b23e7f2e41412080128aafddad0c4e225edc9c", func := "loop.example/g00897/laws.FnExactActiveGrowth", spec := "fnExactActiveGrowth", apart := false }
def FnExactActiveGrowthSaid : Prop := fnExactActiveGrowthRow.holds Try.pinned (OpenSpec.ofChange fnExactActiveGrowthSpec)

/-- ITS FALSE NEIGHBOUR: 'it returns false'. Refute it at one input. -/
def fnExactActiveGrowthWrong : ChangeSpec := { name := "fnExactActiveGrowth", fn := fun _ => fun
  | [d1, d2, d3] => { results := [.lit (.bool false)], args := [d1, d2, d3] }
  | _ => none }
def FnExactActiveGrowthWrongFalsely : Prop := fnExactActiveGrowthRow.holds Try.pinned (OpenSpec.ofChange fnExactActiveGrowthWrong)

/-- 'laws.FnExactPackInOrder': WHATEVER THE INPUT: true; the input reads as it did. -/
def fnExactPackInOrderSpec : ChangeSpec := { name := "fnExactPackInOrder", fn := fun _ => fun
  | [d1, d2] => { results := [.lit (.bool true)], args := [d1, d2] }
  | _ => none }
def fnExactPackInOrderRow : OpenClaim := { program := "ytnbeomnlobfpfaa", sum := "e5b9e6d6063d9e3a1a691c0567b23e7f2e41412080128aafddad0c4e225edc9c", func := "loop.example/g00897/laws.FnExactPackInOrder", spec := "fnExactPackInOrder", apart := false }
def FnExactPackInOrderSaid : Prop := fnExactPackInOrderRow.holds Try.pinned (OpenSpec.ofChange fnExactPackInOrderSpec)

/-- ITS FALSE NEIGHBOUR: 'it returns false'. Refute it at one input. -/
def fnExactPackInOrderWrong : ChangeSpec := { name := "fnExactPackInOrder", fn := fun _ => fun
  | [d1, d2] => { results := [.lit (.bool false)], args := [d1, d2] }
  | _ => none }
def FnExactPackInOrderWrongFalsely : Prop := fnExactPackInOrderRow.holds Try.pinned (OpenSpec.ofChange fnExactPackInOrderWrong)

/-- 'laws.FnExactJoinRoutes': WHATEVER THE INPUT: true; the input reads as it did. -/
def fnExactJoinRoutesSpec : ChangeSpec := { name := "fnExactJoinRoutes", fn := fun _ => fun
  | [d1, d2, d3] => { results := [.lit (.bool true)], args := [d1, d2, d3] }
  | _ => none }
def fnExactJoinRoutesRow : OpenClaim := { program := "ytnbeomnlobfpfaa", sum := "e5b9e6d6063d9e3a1a691c0567b23e7f2e41412080128aafddad0c4e225edc9c", func := "loop.example/g00897/laws.FnExactJoinRoutes", spec := "fnExactJoinRoutes", apart := false }
def FnExactJoinRoutesSaid : Prop := fnExactJoinRoutesRow.holds Try.pinned (OpenSpec.ofChange fnExactJoinRoutesSpec)

/-- ITS FALSE NEIGHBOUR: 'it returns false'. Refute it at one input. -/
def fnExactJoinRoutesWrong : ChangeSpec := { name := "fnExactJoinRoutes", fn := fun _ => fun
  | [d1, d2, d3] => { results := [.lit (.bool false)], args := [d1, d2, d3] }
  | _ => none }
def FnExactJoinRoutesWrongFalsely : Prop := fnExactJoinRoutesRow.holds Try.pinned (OpenSpec.ofChange fnExactJoinRoutesWrong)

/-- 'laws.FnExactRemoveFibers': WHATEVER THE INPUT: true; the input reads as it did. -/
def fnExactRemoveFibersSpec : ChangeSpec := { name := "fnExactRemoveFibers", fn := fun _ => fun
  | [d1, d2] => { results := [.lit (.bool true)], args := [d1, d2] }
  | _ => none }
def fnExactRemoveFibersRow : OpenClaim := { program := "ytnbeomnlobfpfaa", sum := "e5b9e6d6063d9e3a1a691c0567b23e7f2e41412080128aafddad0c4e225edc9c", func := "loop.example/g00897/laws.FnExactRemoveFibers", spec := "fnExactRemoveFibers", apart := false }
def FnExactRemoveFibersSaid : Prop := fnExactRemoveFibersRow.holds Try.pinned (OpenSpec.ofChange fnExactRemoveFibersSpec)

/-- ITS FALSE NEIGHBOUR: 'it returns false'. Refute it at one input. -/
def fnExactRemoveFibersWrong : ChangeSpec := { name := "fnExactRemoveFibers", fn := fun _ => fun
  | [d1, d2] => { results := [.lit (.bool false)], args := [d1, d2] }
  | _ => none }
def FnExactRemoveFibersWrongFalsely : Prop := fnExactRemoveFibersRow.holds Try.pinned (OpenSpec.ofChange fnExactRemoveFibersWrong)

/- THE SECOND FORM. 'bulk': how many values and letters a reading holds, each counted each time it is reached (what is shared counts as often as it is met; a slice's spare places count too). A statement '..UptoSaid' is the law's where the arguments, and the package variables that the reading takes, are together of bulk at most 1048576: NARROWER than '..Said'. Prove '..Said' where nothing that the law and all that it calls make is longer than what came in: it says more and counts as full. Else prove '..UptoSaid'. A law counts once. -/
mutual
def uptoBulk {H : Type} : DataW H → Nat
  | .lit (.string bytes) => bytes.length + 1
  | .lit _ => 1
  | .nil => 1
  | .ptr d => uptoBulk d + 1
  | .slice elems spare => uptoBulkAll elems + uptoBulkAll spare + 1
  | .agg parts => uptoBulkAll parts + 1
  | .iface _ d => uptoBulk d + 1
  | .map entries => uptoBulkEntries entries + 1
  | .held _ => 1
def uptoBulkAll {H : Type} : List (DataW H) → Nat
  | [] => 0
  | d :: r => uptoBulk d + uptoBulkAll r
def uptoBulkEntries {H : Type} : List (Lit × DataW H) → Nat
  | [] => 0
  | x :: r => uptoBulkEntry x + uptoBulkEntries r
def uptoBulkEntry {H : Type} : Lit × DataW H → Nat
  | (.string bytes, d) => bytes.length + uptoBulk d + 1
  | (_, d) => uptoBulk d + 1
 end
def uptoSmall : (H : Type) → List (DataW H) → Bool := fun _ ds => decide (uptoBulkAll ds ≤ 1048576)
def OpenSpec.upto (s : _root_.Go.ChangeSpec) : _root_.Go.OpenSpec := { _root_.Go.OpenSpec.ofChange s with cond := some uptoSmall }

/-- 'laws.FnExactPlanUse', WHERE WHAT IT READS IS OF BULK AT MOST 1048576: true; the input reads as it did. -/
def fnExactPlanUseUptoRow : OpenClaim := { program := "ytnbeomnlobfpfaa", sum := "e5b9e6d6063d9e3a1a691c0567b23e7f2e41412080128aafddad0c4e225edc9c", func := "loop.example/g00897/laws.FnExactPlanUse", spec := "fnExactPlanUse", apart := false, narrowed := true }
def FnExactPlanUseUptoSaid : Prop := fnExactPlanUseUptoRow.holds Try.pinned (OpenSpec.upto fnExactPlanUseSpec)

/-- 'laws.FnExactConflictPairs', WHERE WHAT IT READS IS OF BULK AT MOST 1048576: true; the input reads as it did. -/
def fnExactConflictPairsUptoRow : OpenClaim := { program := "ytnbeomnlobfpfaa", sum := "e5b9e6d6063d9e3a1a691c0567b23e7f2e41412080128aafddad0c4e225edc9c", func := "loop.example/g00897/laws.FnExactConflictPairs", spec := "fnExactConflictPairs", apart := false, narrowed := true }
def FnExactConflictPairsUptoSaid : Prop := fnExactConflictPairsUptoRow.holds Try.pinned (OpenSpec.upto fnExactConflictPairsSpec)

/-- 'laws.FnExactAreDisjoint', WHERE WHAT IT READS IS OF BULK AT MOST 1048576: true; the input reads as it did. -/
def fnExactAreDisjointUptoRow : OpenClaim := { program := "ytnbeomnlobfpfaa", sum := "e5b9e6d6063d9e3a1a691c0567b23e7f2e41412080128aafddad0c4e225edc9c", func := "loop.example/g00897/laws.FnExactAreDisjoint", spec := "fnExactAreDisjoint", unfollowed := true, recurses := true, apart := false, narrowed := true }
def FnExactAreDisjointUptoSaid : Prop := fnExactAreDisjointUptoRow.holds Try.pinned (OpenSpec.upto fnExactAreDisjointSpec)

/-- 'laws.FnExactTrafficBetween', WHERE WHAT IT READS IS OF BULK AT MOST 1048576: true; the input reads as it did. -/
def fnExactTrafficBetweenUptoRow : OpenClaim := { program := "ytnbeomnlobfpfaa", sum := "e5b9e6d6063d9e3a1a691c0567b23e7f2e41412080128aafddad0c4e225edc9c", func := "loop.example/g00897/laws.FnExactTrafficBetween", spec := "fnExactTrafficBetween", apart := false, narrowed := true }
def FnExactTrafficBetweenUptoSaid : Prop := fnExactTrafficBetweenUptoRow.holds Try.pinned (OpenSpec.upto fnExactTrafficBetweenSpec)

/-- 'laws.FnExactCollidingLights', WHERE WHAT IT READS IS OF BULK AT MOST 1048576: true; the input reads as it did. -/
def fnExactCollidingLightsUptoRow : OpenClaim := { program := "ytnbeomnlobfpfaa", sum := "e5b9e6d6063d9e3a1a691c0567b23e7f2e41412080128aafddad0c4e225edc9c", func := "loop.example/g00897/laws.FnExactCollidingLights", spec := "fnExactCollidingLights", apart := false, narrowed := true }
def FnExactCollidingLightsUptoSaid : Prop := fnExactCollidingLightsUptoRow.holds Try.pinned (OpenSpec.upto fnExactCollidingLightsSpec)

/-- 'laws.FnExactIsValidGrowth', WHERE WHAT IT READS IS OF BULK AT MOST 1048576: true; the input reads as it did. -/
def fnExactIsValidGrowthUptoRow : OpenClaim := { program := "ytnbeomnlobfpfaa", sum := "e5b9e6d6063d9e3a1a691c0567b23e7f2e41412080128aafddad0c4e225edc9c", func := "loop.example/g00897/laws.FnExactIsValidGrowth", spec := "fnExactIsValidGrowth", apart := false, narrowed := true }
def FnExactIsValidGrowthUptoSaid : Prop := fnExactIsValidGrowthUptoRow.holds Try.pinned (OpenSpec.upto fnExactIsValidGrowthSpec)

/-- 'laws.FnExactActiveGrowth', WHERE WHAT IT READS IS OF BULK AT MOST 1048576: true; the input reads as it did. -/
def fnExactActiveGrowthUptoRow : OpenClaim := { program := "ytnbeomnlobfpfaa", sum := "e5b9e6d6063d9e3a1a691c0567b23e7f2e41412080128aafddad0c4e225edc9c", func := "loop.example/g00897/laws.FnExactActiveGrowth", spec := "fnExactActiveGrowth", apart := false, narrowed := true }
def FnExactActiveGrowthUptoSaid : Prop := fnExactActiveGrowthUptoRow.holds Try.pinned (OpenSpec.upto fnExactActiveGrowthSpec)

/-- 'laws.FnExactPackInOrder', WHERE WHAT IT READS IS OF BULK AT MOST 1048576: true; the input reads as it did. -/
def fnExactPackInOrderUptoRow : OpenClaim := { program := "ytnbeomnlobfpfaa", sum := "e5b9e6d6063d9e3a1a691c0567b23e7f2e41412080128aafddad0c4e225edc9c", func := "loop.example/g00897/laws.FnExactPackInOrder", spec := "fnExactPackInOrder", apart := false, narrowed := true }
def FnExactPackInOrderUptoSaid : Prop := fnExactPackInOrderUptoRow.holds Try.pinned (OpenSpec.upto fnExactPackInOrderSpec)

/-- 'laws.FnExactJoinRoutes', WHERE WHAT IT READS IS OF BULK AT MOST 1048576: true; the input reads as it did. -/
def fnExactJoinRoutesUptoRow : OpenClaim := { program := "ytnbeomnlobfpfaa", sum := "e5b9e6d6063d9e3a1a691c0567b23e7f2e41412080128aafddad0c4e225edc9c", func := "loop.example/g00897/laws.FnExactJoinRoutes", spec := "fnExactJoinRoutes", apart := false, narrowed := true }
def FnExactJoinRoutesUptoSaid : Prop := fnExactJoinRoutesUptoRow.holds Try.pinned (OpenSpec.upto fnExactJoinRoutesSpec)

/-- 'laws.FnExactRemoveFibers', WHERE WHAT IT READS IS OF BULK AT MOST 1048576: true; the input reads as it did. -/
def fnExactRemoveFibersUptoRow : OpenClaim := { program := "ytnbeomnlobfpfaa", sum := "e5b9e6d6063d9e3a1a691c0567b23e7f2e41412080128aafddad0c4e225edc9c", func := "loop.example/g00897/laws.FnExactRemoveFibers", spec := "fnExactRemoveFibers", apart := false, narrowed := true }
def FnExactRemoveFibersUptoSaid : Prop := fnExactRemoveFibersUptoRow.holds Try.pinned (OpenSpec.upto fnExactRemoveFibersSpec)

end Rows
end Go.Proofs.Ytnbeomnlobfpfaa
