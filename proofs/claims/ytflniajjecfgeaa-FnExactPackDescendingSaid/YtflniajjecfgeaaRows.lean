/-
  No cell of these rows narrows 'for every input' (looked for: loops, veiled, ifaces, maps, wideKeys, modest, calm, conditions, laid).
  DERIVED. THE GIVEN ROWS OF THIS SEAT. 11 by the template 'for every input the law returns true; each argument reads behind the call as it read before'; 0 by the template 'total and deterministic' (their statements: YtflniajjecfgeaaTotals.lean).
  GIVEN WITH THE SEED: the statements are not yours to turn. If you find one false, say at which input.
  Laid BY PROGRAM, IN A SANDBOX (cutbox-rows.mjs): the forced cells as the released guide's own fill.sh prints them over the translation 5dcdc05ebcabfaaf… (all of the seat's roots in one cut). By AI agents, Wed Nov 11 2026. No macro, syntax, notation, axiom, sorry.
-/
import Derived.Test.YtflniajjecfgeaaChecked
import GoSem.Claim
import GoSem.ClaimJoined
import GoSem.ClaimMapViews
import Derived.JoinedTies
import Derived.KernelRfl
namespace Go.Proofs.Ytflniajjecfgeaa
/- THE CELL 'sum', in the pinned program and in every row, IS THE sha256 OF THE DUMP (.gsa) THAT YtflniajjecfgeaaProg.lean LOADS. Nothing in Lean hashes anything: it is a label: what it is worth is what the hold of that sum in a sandbox is worth. -/
noncomputable def Try.pinned : Pinned := { name := "ytflniajjecfgeaa", sum := "5dcdc05ebcabfaafb09562681b0f78ec0617de3c61d9728182c484e65d23ffe6", checked := Try.checked }
namespace Rows
def none {H : Type} : Left H := { results := [], args := [] }

/-- 'laws.FnExactJoinRoutes': WHATEVER THE INPUT: true; the input reads as it did. -/
def fnExactJoinRoutesSpec : ChangeSpec := { name := "fnExactJoinRoutes", fn := fun _ => fun
  | [d1, d2, d3] => { results := [.lit (.bool true)], args := [d1, d2, d3] }
  | _ => none }
def fnExactJoinRoutesRow : OpenClaim := { program := "ytflniajjecfgeaa", sum := "5dcdc05ebcabfaafb09562681b0f78ec0617de3c61d9728182c484e65d23ffe6", func := "loop.example/g00897/laws.FnExactJoinRoutes", spec := "fnExactJoinRoutes", apart := false }
def FnExactJoinRoutesSaid : Prop := fnExactJoinRoutesRow.holds Try.pinned (OpenSpec.ofChange fnExactJoinRoutesSpec)

/-- ITS FALSE NEIGHBOUR: 'it returns false'. Refute it at one input. -/
def fnExactJoinRoutesWrong : ChangeSpec := { name := "fnExactJoinRoutes", fn := fun _ => fun
  | [d1, d2, d3] => { results := [.lit (.bool false)], args := [d1, d2, d3] }
  | _ => none }
def FnExactJoinRoutesWrongFalsely : Prop := fnExactJoinRoutesRow.holds Try.pinned (OpenSpec.ofChange fnExactJoinRoutesWrong)

/-- 'laws.FnExactIsRing': WHATEVER THE INPUT: true; the input reads as it did. -/
def fnExactIsRingSpec : ChangeSpec := { name := "fnExactIsRing", fn := fun _ => fun
  | [d1, d2] => { results := [.lit (.bool true)], args := [d1, d2] }
  | _ => none }
def fnExactIsRingRow : OpenClaim := { program := "ytflniajjecfgeaa", sum := "5dcdc05ebcabfaafb09562681b0f78ec0617de3c61d9728182c484e65d23ffe6", func := "loop.example/g00897/laws.FnExactIsRing", spec := "fnExactIsRing", apart := false }
def FnExactIsRingSaid : Prop := fnExactIsRingRow.holds Try.pinned (OpenSpec.ofChange fnExactIsRingSpec)

/-- ITS FALSE NEIGHBOUR: 'it returns false'. Refute it at one input. -/
def fnExactIsRingWrong : ChangeSpec := { name := "fnExactIsRing", fn := fun _ => fun
  | [d1, d2] => { results := [.lit (.bool false)], args := [d1, d2] }
  | _ => none }
def FnExactIsRingWrongFalsely : Prop := fnExactIsRingRow.holds Try.pinned (OpenSpec.ofChange fnExactIsRingWrong)

/-- 'laws.FnExactRingNodes': WHATEVER THE INPUT: true; the input reads as it did. -/
def fnExactRingNodesSpec : ChangeSpec := { name := "fnExactRingNodes", fn := fun _ => fun
  | [d1, d2] => { results := [.lit (.bool true)], args := [d1, d2] }
  | _ => none }
def fnExactRingNodesRow : OpenClaim := { program := "ytflniajjecfgeaa", sum := "5dcdc05ebcabfaafb09562681b0f78ec0617de3c61d9728182c484e65d23ffe6", func := "loop.example/g00897/laws.FnExactRingNodes", spec := "fnExactRingNodes", apart := false }
def FnExactRingNodesSaid : Prop := fnExactRingNodesRow.holds Try.pinned (OpenSpec.ofChange fnExactRingNodesSpec)

/-- ITS FALSE NEIGHBOUR: 'it returns false'. Refute it at one input. -/
def fnExactRingNodesWrong : ChangeSpec := { name := "fnExactRingNodes", fn := fun _ => fun
  | [d1, d2] => { results := [.lit (.bool false)], args := [d1, d2] }
  | _ => none }
def FnExactRingNodesWrongFalsely : Prop := fnExactRingNodesRow.holds Try.pinned (OpenSpec.ofChange fnExactRingNodesWrong)

/-- 'laws.FnExactAreDisjoint': WHATEVER THE INPUT: true; the input reads as it did. -/
def fnExactAreDisjointSpec : ChangeSpec := { name := "fnExactAreDisjoint", fn := fun _ => fun
  | [d1, d2, d3, d4] => { results := [.lit (.bool true)], args := [d1, d2, d3, d4] }
  | _ => none }
def fnExactAreDisjointRow : OpenClaim := { program := "ytflniajjecfgeaa", sum := "5dcdc05ebcabfaafb09562681b0f78ec0617de3c61d9728182c484e65d23ffe6", func := "loop.example/g00897/laws.FnExactAreDisjoint", spec := "fnExactAreDisjoint", unfollowed := true, recurses := true, apart := false }
def FnExactAreDisjointSaid : Prop := fnExactAreDisjointRow.holds Try.pinned (OpenSpec.ofChange fnExactAreDisjointSpec)

/-- ITS FALSE NEIGHBOUR: 'it returns false'. Refute it at one input. -/
def fnExactAreDisjointWrong : ChangeSpec := { name := "fnExactAreDisjoint", fn := fun _ => fun
  | [d1, d2, d3, d4] => { results := [.lit (.bool false)], args := [d1, d2, d3, d4] }
  | _ => none }
def FnExactAreDisjointWrongFalsely : Prop := fnExactAreDisjointRow.holds Try.pinned (OpenSpec.ofChange fnExactAreDisjointWrong)

/-- 'laws.FnExactAddFiber': WHATEVER THE INPUT: true; the input reads as it did. -/
def fnExactAddFiberSpec : ChangeSpec := { name := "fnExactAddFiber", fn := fun _ => fun
  | [d1, d2] => { results := [.lit (.bool true)], args := [d1, d2] }
  | _ => none }
def fnExactAddFiberRow : OpenClaim := { program := "ytflniajjecfgeaa", sum := "5dcdc05ebcabfaafb09562681b0f78ec0617de3c61d9728182c484e65d23ffe6", func := "loop.example/g00897/laws.FnExactAddFiber", spec := "fnExactAddFiber", apart := false }
def FnExactAddFiberSaid : Prop := fnExactAddFiberRow.holds Try.pinned (OpenSpec.ofChange fnExactAddFiberSpec)

/-- ITS FALSE NEIGHBOUR: 'it returns false'. Refute it at one input. -/
def fnExactAddFiberWrong : ChangeSpec := { name := "fnExactAddFiber", fn := fun _ => fun
  | [d1, d2] => { results := [.lit (.bool false)], args := [d1, d2] }
  | _ => none }
def FnExactAddFiberWrongFalsely : Prop := fnExactAddFiberRow.holds Try.pinned (OpenSpec.ofChange fnExactAddFiberWrong)

/-- 'laws.FnExactPackDescending': WHATEVER THE INPUT: true; the input reads as it did. -/
def fnExactPackDescendingSpec : ChangeSpec := { name := "fnExactPackDescending", fn := fun _ => fun
  | [d1, d2] => { results := [.lit (.bool true)], args := [d1, d2] }
  | _ => none }
def fnExactPackDescendingRow : OpenClaim := { program := "ytflniajjecfgeaa", sum := "5dcdc05ebcabfaafb09562681b0f78ec0617de3c61d9728182c484e65d23ffe6", func := "loop.example/g00897/laws.FnExactPackDescending", spec := "fnExactPackDescending", unfollowed := true, recurses := true, apart := false }
def FnExactPackDescendingSaid : Prop := fnExactPackDescendingRow.holds Try.pinned (OpenSpec.ofChange fnExactPackDescendingSpec)

/-- ITS FALSE NEIGHBOUR: 'it returns false'. Refute it at one input. -/
def fnExactPackDescendingWrong : ChangeSpec := { name := "fnExactPackDescending", fn := fun _ => fun
  | [d1, d2] => { results := [.lit (.bool false)], args := [d1, d2] }
  | _ => none }
def FnExactPackDescendingWrongFalsely : Prop := fnExactPackDescendingRow.holds Try.pinned (OpenSpec.ofChange fnExactPackDescendingWrong)

/-- 'laws.FnExactMoveLight': WHATEVER THE INPUT: true; the input reads as it did. -/
def fnExactMoveLightSpec : ChangeSpec := { name := "fnExactMoveLight", fn := fun _ => fun
  | [d1, d2, d3, d4] => { results := [.lit (.bool true)], args := [d1, d2, d3, d4] }
  | _ => none }
def fnExactMoveLightRow : OpenClaim := { program := "ytflniajjecfgeaa", sum := "5dcdc05ebcabfaafb09562681b0f78ec0617de3c61d9728182c484e65d23ffe6", func := "loop.example/g00897/laws.FnExactMoveLight", spec := "fnExactMoveLight", apart := false }
def FnExactMoveLightSaid : Prop := fnExactMoveLightRow.holds Try.pinned (OpenSpec.ofChange fnExactMoveLightSpec)

/-- ITS FALSE NEIGHBOUR: 'it returns false'. Refute it at one input. -/
def fnExactMoveLightWrong : ChangeSpec := { name := "fnExactMoveLight", fn := fun _ => fun
  | [d1, d2, d3, d4] => { results := [.lit (.bool false)], args := [d1, d2, d3, d4] }
  | _ => none }
def FnExactMoveLightWrongFalsely : Prop := fnExactMoveLightRow.holds Try.pinned (OpenSpec.ofChange fnExactMoveLightWrong)

/-- 'laws.FnExactStartRestoration': WHATEVER THE INPUT: true; the input reads as it did. -/
def fnExactStartRestorationSpec : ChangeSpec := { name := "fnExactStartRestoration", fn := fun _ => fun
  | [d] => { results := [.lit (.bool true)], args := [d] }
  | _ => none }
def fnExactStartRestorationRow : OpenClaim := { program := "ytflniajjecfgeaa", sum := "5dcdc05ebcabfaafb09562681b0f78ec0617de3c61d9728182c484e65d23ffe6", func := "loop.example/g00897/laws.FnExactStartRestoration", spec := "fnExactStartRestoration", apart := false }
def FnExactStartRestorationSaid : Prop := fnExactStartRestorationRow.holds Try.pinned (OpenSpec.ofChange fnExactStartRestorationSpec)

/-- ITS FALSE NEIGHBOUR: 'it returns false'. Refute it at one input. -/
def fnExactStartRestorationWrong : ChangeSpec := { name := "fnExactStartRestoration", fn := fun _ => fun
  | [d] => { results := [.lit (.bool false)], args := [d] }
  | _ => none }
def FnExactStartRestorationWrongFalsely : Prop := fnExactStartRestorationRow.holds Try.pinned (OpenSpec.ofChange fnExactStartRestorationWrong)

/-- 'laws.FnExactAreCompatible': WHATEVER THE INPUT: true; the input reads as it did. -/
def fnExactAreCompatibleSpec : ChangeSpec := { name := "fnExactAreCompatible", fn := fun _ => fun
  | [d1, d2, d3] => { results := [.lit (.bool true)], args := [d1, d2, d3] }
  | _ => none }
def fnExactAreCompatibleRow : OpenClaim := { program := "ytflniajjecfgeaa", sum := "5dcdc05ebcabfaafb09562681b0f78ec0617de3c61d9728182c484e65d23ffe6", func := "loop.example/g00897/laws.FnExactAreCompatible", spec := "fnExactAreCompatible", apart := false }
def FnExactAreCompatibleSaid : Prop := fnExactAreCompatibleRow.holds Try.pinned (OpenSpec.ofChange fnExactAreCompatibleSpec)

/-- ITS FALSE NEIGHBOUR: 'it returns false'. Refute it at one input. -/
def fnExactAreCompatibleWrong : ChangeSpec := { name := "fnExactAreCompatible", fn := fun _ => fun
  | [d1, d2, d3] => { results := [.lit (.bool false)], args := [d1, d2, d3] }
  | _ => none }
def FnExactAreCompatibleWrongFalsely : Prop := fnExactAreCompatibleRow.holds Try.pinned (OpenSpec.ofChange fnExactAreCompatibleWrong)

/-- 'laws.FnExactIsValidServices': WHATEVER THE INPUT: true; the input reads as it did. -/
def fnExactIsValidServicesSpec : ChangeSpec := { name := "fnExactIsValidServices", fn := fun _ => fun
  | [d1, d2] => { results := [.lit (.bool true)], args := [d1, d2] }
  | _ => none }
def fnExactIsValidServicesRow : OpenClaim := { program := "ytflniajjecfgeaa", sum := "5dcdc05ebcabfaafb09562681b0f78ec0617de3c61d9728182c484e65d23ffe6", func := "loop.example/g00897/laws.FnExactIsValidServices", spec := "fnExactIsValidServices", apart := false }
def FnExactIsValidServicesSaid : Prop := fnExactIsValidServicesRow.holds Try.pinned (OpenSpec.ofChange fnExactIsValidServicesSpec)

/-- ITS FALSE NEIGHBOUR: 'it returns false'. Refute it at one input. -/
def fnExactIsValidServicesWrong : ChangeSpec := { name := "fnExactIsValidServices", fn := fun _ => fun
  | [d1, d2] => { results := [.lit (.bool false)], args := [d1, d2] }
  | _ => none }
def FnExactIsValidServicesWrongFalsely : Prop := fnExactIsValidServicesRow.holds Try.pinned (OpenSpec.ofChange fnExactIsValidServicesWrong)

/-- 'laws.FnExactAlarmBursts': WHATEVER THE INPUT: true; the input reads as it did. -/
def fnExactAlarmBurstsSpec : ChangeSpec := { name := "fnExactAlarmBursts", fn := fun _ => fun
  | [d1, d2] => { results := [.lit (.bool true)], args := [d1, d2] }
  | _ => none }
def fnExactAlarmBurstsRow : OpenClaim := { program := "ytflniajjecfgeaa", sum := "5dcdc05ebcabfaafb09562681b0f78ec0617de3c61d9728182c484e65d23ffe6", func := "loop.example/g00897/laws.FnExactAlarmBursts", spec := "fnExactAlarmBursts", recurses := true, apart := false }
def FnExactAlarmBurstsSaid : Prop := fnExactAlarmBurstsRow.holds Try.pinned (OpenSpec.ofChange fnExactAlarmBurstsSpec)

/-- ITS FALSE NEIGHBOUR: 'it returns false'. Refute it at one input. -/
def fnExactAlarmBurstsWrong : ChangeSpec := { name := "fnExactAlarmBursts", fn := fun _ => fun
  | [d1, d2] => { results := [.lit (.bool false)], args := [d1, d2] }
  | _ => none }
def FnExactAlarmBurstsWrongFalsely : Prop := fnExactAlarmBurstsRow.holds Try.pinned (OpenSpec.ofChange fnExactAlarmBurstsWrong)

/- THE SECOND FORM. 'bulk': how many values and letters a reading holds, each counted each time it is reached (what is shared counts as often as it is met; a slice's spare places count too). A statement '..UptoSaid' is the law's where the arguments, and the package variables that the reading takes, are together of bulk at most 1048576: NARROWER than '..Said'. Prove '..Said' where nothing that the law and all that it calls make is longer than what came in: it says more and counts as full. Else prove '..UptoSaid'. A law counts once. -/
mutual
def uptoBulk {H : Type} : DataW H → Nat
  | .lit (.string bytes) => bytes.length + 1
  | .lit _ => 1
  | .nil => 1
  | .ptr d => uptoBulk d + 1
  | .slice elems spare => uptoBulkAll elems + uptoBulkAll spare + 1
  | .agg parts => uptoBulkAll parts + 1
  | .iface _ d => uptoBulk d + 1
  | .map entries => uptoBulkEntries entries + 1
  | .held _ => 1
def uptoBulkAll {H : Type} : List (DataW H) → Nat
  | [] => 0
  | d :: r => uptoBulk d + uptoBulkAll r
def uptoBulkEntries {H : Type} : List (Lit × DataW H) → Nat
  | [] => 0
  | x :: r => uptoBulkEntry x + uptoBulkEntries r
def uptoBulkEntry {H : Type} : Lit × DataW H → Nat
  | (.string bytes, d) => bytes.length + uptoBulk d + 1
  | (_, d) => uptoBulk d + 1
 end
def uptoSmall : (H : Type) → List (DataW H) → Bool := fun _ ds => decide (uptoBulkAll ds ≤ 1048576)
def OpenSpec.upto (s : _root_.Go.ChangeSpec) : _root_.Go.OpenSpec := { _root_.Go.OpenSpec.ofChange s with cond := some uptoSmall }

/-- 'laws.FnExactJoinRoutes', WHERE WHAT IT READS IS OF BULK AT MOST 1048576: true; the input reads as it did. -/
def fnExactJoinRoutesUptoRow : OpenClaim := { program := "ytflniajjecfgeaa", sum := "5dcdc05ebcabfaafb09562681b0f78ec0617de3c61d9728182c484e65d23ffe6", func := "loop.example/g00897/laws.FnExactJoinRoutes", spec := "fnExactJoinRoutes", apart := false, narrowed := true }
def FnExactJoinRoutesUptoSaid : Prop := fnExactJoinRoutesUptoRow.holds Try.pinned (OpenSpec.upto fnExactJoinRoutesSpec)

/-- 'laws.FnExactIsRing', WHERE WHAT IT READS IS OF BULK AT MOST 1048576: true; the input reads as it did. -/
def fnExactIsRingUptoRow : OpenClaim := { program := "ytflniajjecfgeaa", sum := "5dcdc05ebcabfaafb09562681b0f78ec0617de3c61d9728182c484e65d23ffe6", func := "loop.example/g00897/laws.FnExactIsRing", spec := "fnExactIsRing", apart := false, narrowed := true }
def FnExactIsRingUptoSaid : Prop := fnExactIsRingUptoRow.holds Try.pinned (OpenSpec.upto fnExactIsRingSpec)

/-- 'laws.FnExactRingNodes', WHERE WHAT IT READS IS OF BULK AT MOST 1048576: true; the input reads as it did. -/
def fnExactRingNodesUptoRow : OpenClaim := { program := "ytflniajjecfgeaa", sum := "5dcdc05ebcabfaafb09562681b0f78ec0617de3c61d9728182c484e65d23ffe6", func := "loop.example/g00897/laws.FnExactRingNodes", spec := "fnExactRingNodes", apart := false, narrowed := true }
def FnExactRingNodesUptoSaid : Prop := fnExactRingNodesUptoRow.holds Try.pinned (OpenSpec.upto fnExactRingNodesSpec)

/-- 'laws.FnExactAreDisjoint', WHERE WHAT IT READS IS OF BULK AT MOST 1048576: true; the input reads as it did. -/
def fnExactAreDisjointUptoRow : OpenClaim := { program := "ytflniajjecfgeaa", sum := "5dcdc05ebcabfaafb09562681b0f78ec0617de3c61d9728182c484e65d23ffe6", func := "loop.example/g00897/laws.FnExactAreDisjoint", spec := "fnExactAreDisjoint", unfollowed := true, recurses := true, apart := false, narrowed := true }
def FnExactAreDisjointUptoSaid : Prop := fnExactAreDisjointUptoRow.holds Try.pinned (OpenSpec.upto fnExactAreDisjointSpec)

/-- 'laws.FnExactAddFiber', WHERE WHAT IT READS IS OF BULK AT MOST 1048576: true; the input reads as it did. -/
def fnExactAddFiberUptoRow : OpenClaim := { program := "ytflniajjecfgeaa", sum := "5dcdc05ebcabfaafb09562681b0f78ec0617de3c61d9728182c484e65d23ffe6", func := "loop.example/g00897/laws.FnExactAddFiber", spec := "fnExactAddFiber", apart := false, narrowed := true }
def FnExactAddFiberUptoSaid : Prop := fnExactAddFiberUptoRow.holds Try.pinned (OpenSpec.upto fnExactAddFiberSpec)

/-- 'laws.FnExactPackDescending', WHERE WHAT IT READS IS OF BULK AT MOST 1048576: true; the input reads as it did. -/
def fnExactPackDescendingUptoRow : OpenClaim := { program := "ytflniajjecfgeaa", sum := "5dcdc05ebcabfaafb09562681b0f78ec0617de3c61d9728182c484e65d23ffe6", func := "loop.example/g00897/laws.FnExactPackDescending", spec := "fnExactPackDescending", unfollowed := true, recurses := true, apart := false, narrowed := true }
def FnExactPackDescendingUptoSaid : Prop := fnExactPackDescendingUptoRow.holds Try.pinned (OpenSpec.upto fnExactPackDescendingSpec)

/-- 'laws.FnExactMoveLight', WHERE WHAT IT READS IS OF BULK AT MOST 1048576: true; the input reads as it did. -/
def fnExactMoveLightUptoRow : OpenClaim := { program := "ytflniajjecfgeaa", sum := "5dcdc05ebcabfaafb09562681b0f78ec0617de3c61d9728182c484e65d23ffe6", func := "loop.example/g00897/laws.FnExactMoveLight", spec := "fnExactMoveLight", apart := false, narrowed := true }
def FnExactMoveLightUptoSaid : Prop := fnExactMoveLightUptoRow.holds Try.pinned (OpenSpec.upto fnExactMoveLightSpec)

/-- 'laws.FnExactStartRestoration', WHERE WHAT IT READS IS OF BULK AT MOST 1048576: true; the input reads as it did. -/
def fnExactStartRestorationUptoRow : OpenClaim := { program := "ytflniajjecfgeaa", sum := "5dcdc05ebcabfaafb09562681b0f78ec0617de3c61d9728182c484e65d23ffe6", func := "loop.example/g00897/laws.FnExactStartRestoration", spec := "fnExactStartRestoration", apart := false, narrowed := true }
def FnExactStartRestorationUptoSaid : Prop := fnExactStartRestorationUptoRow.holds Try.pinned (OpenSpec.upto fnExactStartRestorationSpec)

/-- 'laws.FnExactAreCompatible', WHERE WHAT IT READS IS OF BULK AT MOST 1048576: true; the input reads as it did. -/
def fnExactAreCompatibleUptoRow : OpenClaim := { program := "ytflniajjecfgeaa", sum := "5dcdc05ebcabfaafb09562681b0f78ec0617de3c61d9728182c484e65d23ffe6", func := "loop.example/g00897/laws.FnExactAreCompatible", spec := "fnExactAreCompatible", apart := false, narrowed := true }
def FnExactAreCompatibleUptoSaid : Prop := fnExactAreCompatibleUptoRow.holds Try.pinned (OpenSpec.upto fnExactAreCompatibleSpec)

/-- 'laws.FnExactIsValidServices', WHERE WHAT IT READS IS OF BULK AT MOST 1048576: true; the input reads as it did. -/
def fnExactIsValidServicesUptoRow : OpenClaim := { program := "ytflniajjecfgeaa", sum := "5dcdc05ebcabfaafb09562681b0f78ec0617de3c61d9728182c484e65d23ffe6", func := "loop.example/g00897/laws.FnExactIsValidServices", spec := "fnExactIsValidServices", apart := false, narrowed := true }
def FnExactIsValidServicesUptoSaid : Prop := fnExactIsValidServicesUptoRow.holds Try.pinned (OpenSpec.upto fnExactIsValidServicesSpec)

/-- 'laws.FnExactAlarmBursts', WHERE WHAT IT READS IS OF BULK AT MOST 1048576: true; the input reads as it did. -/
def fnExactAlarmBurstsUptoRow : OpenClaim := { program := "ytflniajjecfgeaa", sum := "5dcdc05ebcabfaafb09562681b0f78ec0617de3c61d9728182c484e65d23ffe6", func := "loop.example/g00897/laws.FnExactAlarmBursts", spec := "fnExactAlarmBursts", recurses := true, apart := false, narrowed := true }
def FnExactAlarmBurstsUptoSaid : Prop := fnExactAlarmBurstsUptoRow.holds Try.pinned (OpenSpec.upto fnExactAlarmBurstsSpec)

end Rows
end Go.Proofs.Ytflniajjecfgeaa
