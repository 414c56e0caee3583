/-
  No cell of these rows narrows 'for every input' (looked for: loops, veiled, ifaces, maps, wideKeys, modest, calm, conditions, laid).
  DERIVED. THE GIVEN ROWS OF THIS SEAT. 8 by the template 'for every input the law returns true; each argument reads behind the call as it read before'; 0 by the template 'total and deterministic' (their statements: YtlmemmcdabhooaaTotals.lean).
  GIVEN WITH THE SEED: the statements are not yours to turn. If you find one false, say at which input.
  Laid BY PROGRAM, IN A SANDBOX (cutbox-rows.mjs): the forced cells as the released guide's own fill.sh prints them over the translation 7680125a1d3f4cdc… (all of the seat's roots in one cut). By AI agents, Wed Nov 11 2026. No macro, syntax, notation, axiom, sorry.
-/
import Derived.Test.YtlmemmcdabhooaaChecked
import GoSem.Claim
import GoSem.ClaimJoined
import GoSem.ClaimMapViews
import Derived.JoinedTies
import Derived.KernelRfl
namespace Go.Proofs.Ytlmemmcdabhooaa
/- THE CELL 'sum', in the pinned program and in every row, IS THE sha256 OF THE DUMP (.gsa) THAT YtlmemmcdabhooaaProg.lean LOADS. Nothing in Lean hashes anything: it is a label: what it is worth is what the hold of that sum in a sandbox is worth. -/
noncomputable def Try.pinned : Pinned := { name := "ytlmemmcdabhooaa", sum := "7680125a1d3f4cdcd381486af5620caec017deaf962593dddf0aa647a2499dfa", checked := Try.checked }
namespace Rows
def none {H : Type} : Left H := { results := [], args := [] }

/-- 'laws.FnExactDelayGrowth': WHATEVER THE INPUT: true; the input reads as it did. -/
def fnExactDelayGrowthSpec : ChangeSpec := { name := "fnExactDelayGrowth", fn := fun _ => fun
  | [d1, d2, d3, d4] => { results := [.lit (.bool true)], args := [d1, d2, d3, d4] }
  | _ => none }
def fnExactDelayGrowthRow : OpenClaim := { program := "ytlmemmcdabhooaa", sum := "7680125a1d3f4cdcd381486af5620caec017deaf962593dddf0aa647a2499dfa", func := "loop.example/g00897/laws.FnExactDelayGrowth", spec := "fnExactDelayGrowth", apart := false }
def FnExactDelayGrowthSaid : Prop := fnExactDelayGrowthRow.holds Try.pinned (OpenSpec.ofChange fnExactDelayGrowthSpec)

/-- ITS FALSE NEIGHBOUR: 'it returns false'. Refute it at one input. -/
def fnExactDelayGrowthWrong : ChangeSpec := { name := "fnExactDelayGrowth", fn := fun _ => fun
  | [d1, d2, d3, d4] => { results := [.lit (.bool false)], args := [d1, d2, d3, d4] }
  | _ => none }
def FnExactDelayGrowthWrongFalsely : Prop := fnExactDelayGrowthRow.holds Try.pinned (OpenSpec.ofChange fnExactDelayGrowthWrong)

/-- 'laws.FnExactRemoveLight': WHATEVER THE INPUT: true; the input reads as it did. -/
def fnExactRemoveLightSpec : ChangeSpec := { name := "fnExactRemoveLight", fn := fun _ => fun
  | [d1, d2] => { results := [.lit (.bool true)], args := [d1, d2] }
  | _ => none }
def fnExactRemoveLightRow : OpenClaim := { program := "ytlmemmcdabhooaa", sum := "7680125a1d3f4cdcd381486af5620caec017deaf962593dddf0aa647a2499dfa", func := "loop.example/g00897/laws.FnExactRemoveLight", spec := "fnExactRemoveLight", apart := false }
def FnExactRemoveLightSaid : Prop := fnExactRemoveLightRow.holds Try.pinned (OpenSpec.ofChange fnExactRemoveLightSpec)

/-- ITS FALSE NEIGHBOUR: 'it returns false'. Refute it at one input. -/
def fnExactRemoveLightWrong : ChangeSpec := { name := "fnExactRemoveLight", fn := fun _ => fun
  | [d1, d2] => { results := [.lit (.bool false)], args := [d1, d2] }
  | _ => none }
def FnExactRemoveLightWrongFalsely : Prop := fnExactRemoveLightRow.holds Try.pinned (OpenSpec.ofChange fnExactRemoveLightWrong)

/-- 'laws.FnExactRemoveFibers': WHATEVER THE INPUT: true; the input reads as it did. -/
def fnExactRemoveFibersSpec : ChangeSpec := { name := "fnExactRemoveFibers", fn := fun _ => fun
  | [d1, d2] => { results := [.lit (.bool true)], args := [d1, d2] }
  | _ => none }
def fnExactRemoveFibersRow : OpenClaim := { program := "ytlmemmcdabhooaa", sum := "7680125a1d3f4cdcd381486af5620caec017deaf962593dddf0aa647a2499dfa", func := "loop.example/g00897/laws.FnExactRemoveFibers", spec := "fnExactRemoveFibers", apart := false }
def FnExactRemoveFibersSaid : Prop := fnExactRemoveFibersRow.holds Try.pinned (OpenSpec.ofChange fnExactRemoveFibersSpec)

/-- ITS FALSE NEIGHBOUR: 'it returns false'. Refute it at one input. -/
def fnExactRemoveFibersWrong : ChangeSpec := { name := "fnExactRemoveFibers", fn := fun _ => fun
  | [d1, d2] => { results := [.lit (.bool false)], args := [d1, d2] }
  | _ => none }
def FnExactRemoveFibersWrongFalsely : Prop := fnExactRemoveFibersRow.holds Try.pinned (OpenSpec.ofChange fnExactRemoveFibersWrong)

/-- 'laws.FnExactJoinRoutes': WHATEVER THE INPUT: true; the input reads as it did. -/
def fnExactJoinRoutesSpec : ChangeSpec := { name := "fnExactJoinRoutes", fn := fun _ => fun
  | [d1, d2, d3] => { results := [.lit (.bool true)], args := [d1, d2, d3] }
  | _ => none }
def fnExactJoinRoutesRow : OpenClaim := { program := "ytlmemmcdabhooaa", sum := "7680125a1d3f4cdcd381486af5620caec017deaf962593dddf0aa647a2499dfa", func := "loop.example/g00897/laws.FnExactJoinRoutes", spec := "fnExactJoinRoutes", apart := false }
def FnExactJoinRoutesSaid : Prop := fnExactJoinRoutesRow.holds Try.pinned (OpenSpec.ofChange fnExactJoinRoutesSpec)

/-- ITS FALSE NEIGHBOUR: 'it returns false'. Refute it at one input. -/
def fnExactJoinRoutesWrong : ChangeSpec := { name := "fnExactJoinRoutes", fn := fun _ => fun
  | [d1, d2, d3] => { results := [.lit (.bool false)], args := [d1, d2, d3] }
  | _ => none }
def FnExactJoinRoutesWrongFalsely : Prop := fnExactJoinRoutesRow.holds Try.pinned (OpenSpec.ofChange fnExactJoinRoutesWrong)

/-- 'laws.FnExactPackDescending': WHATEVER THE INPUT: true; the input reads as it did. -/
def fnExactPackDescendingSpec : ChangeSpec := { name := "fnExactPackDescending", fn := fun _ => fun
  | [d1, d2] => { results := [.lit (.bool true)], args := [d1, d2] }
  | _ => none }
def fnExactPackDescendingRow : OpenClaim := { program := "ytlmemmcdabhooaa", sum := "7680125a1d3f4cdcd381486af5620caec017deaf962593dddf0aa647a2499dfa", func := "loop.example/g00897/laws.FnExactPackDescending", spec := "fnExactPackDescending", unfollowed := true, recurses := true, apart := false }
def FnExactPackDescendingSaid : Prop := fnExactPackDescendingRow.holds Try.pinned (OpenSpec.ofChange fnExactPackDescendingSpec)

/-- ITS FALSE NEIGHBOUR: 'it returns false'. Refute it at one input. -/
def fnExactPackDescendingWrong : ChangeSpec := { name := "fnExactPackDescending", fn := fun _ => fun
  | [d1, d2] => { results := [.lit (.bool false)], args := [d1, d2] }
  | _ => none }
def FnExactPackDescendingWrongFalsely : Prop := fnExactPackDescendingRow.holds Try.pinned (OpenSpec.ofChange fnExactPackDescendingWrong)

/-- 'laws.FnExactAreDisjoint': WHATEVER THE INPUT: true; the input reads as it did. -/
def fnExactAreDisjointSpec : ChangeSpec := { name := "fnExactAreDisjoint", fn := fun _ => fun
  | [d1, d2, d3, d4] => { results := [.lit (.bool true)], args := [d1, d2, d3, d4] }
  | _ => none }
def fnExactAreDisjointRow : OpenClaim := { program := "ytlmemmcdabhooaa", sum := "7680125a1d3f4cdcd381486af5620caec017deaf962593dddf0aa647a2499dfa", func := "loop.example/g00897/laws.FnExactAreDisjoint", spec := "fnExactAreDisjoint", unfollowed := true, recurses := true, apart := false }
def FnExactAreDisjointSaid : Prop := fnExactAreDisjointRow.holds Try.pinned (OpenSpec.ofChange fnExactAreDisjointSpec)

/-- ITS FALSE NEIGHBOUR: 'it returns false'. Refute it at one input. -/
def fnExactAreDisjointWrong : ChangeSpec := { name := "fnExactAreDisjoint", fn := fun _ => fun
  | [d1, d2, d3, d4] => { results := [.lit (.bool false)], args := [d1, d2, d3, d4] }
  | _ => none }
def FnExactAreDisjointWrongFalsely : Prop := fnExactAreDisjointRow.holds Try.pinned (OpenSpec.ofChange fnExactAreDisjointWrong)

/-- 'laws.FnExactAlarmBursts': WHATEVER THE INPUT: true; the input reads as it did. -/
def fnExactAlarmBurstsSpec : ChangeSpec := { name := "fnExactAlarmBursts", fn := fun _ => fun
  | [d1, d2] => { results := [.lit (.bool true)], args := [d1, d2] }
  | _ => none }
def fnExactAlarmBurstsRow : OpenClaim := { program := "ytlmemmcdabhooaa", sum := "7680125a1d3f4cdcd381486af5620caec017deaf962593dddf0aa647a2499dfa", func := "loop.example/g00897/laws.FnExactAlarmBursts", spec := "fnExactAlarmBursts", recurses := true, apart := false }
def FnExactAlarmBurstsSaid : Prop := fnExactAlarmBurstsRow.holds Try.pinned (OpenSpec.ofChange fnExactAlarmBurstsSpec)

/-- ITS FALSE NEIGHBOUR: 'it returns false'. Refute it at one input. -/
def fnExactAlarmBurstsWrong : ChangeSpec := { name := "fnExactAlarmBursts", fn := fun _ => fun
  | [d1, d2] => { results := [.lit (.bool false)], args := [d1, d2] }
  | _ => none }
def FnExactAlarmBurstsWrongFalsely : Prop := fnExactAlarmBurstsRow.holds Try.pinned (OpenSpec.ofChange fnExactAlarmBurstsWrong)

/-- 'laws.FnExactAddFiber': WHATEVER THE INPUT: true; the input reads as it did. -/
def fnExactAddFiberSpec : ChangeSpec := { name := "fnExactAddFiber", fn := fun _ => fun
  | [d1, d2] => { results := [.lit (.bool true)], args := [d1, d2] }
  | _ => none }
def fnExactAddFiberRow : OpenClaim := { program := "ytlmemmcdabhooaa", sum := "7680125a1d3f4cdcd381486af5620caec017deaf962593dddf0aa647a2499dfa", func := "loop.example/g00897/laws.FnExactAddFiber", spec := "fnExactAddFiber", apart := false }
def FnExactAddFiberSaid : Prop := fnExactAddFiberRow.holds Try.pinned (OpenSpec.ofChange fnExactAddFiberSpec)

/-- ITS FALSE NEIGHBOUR: 'it returns false'. Refute it at one input. -/
def fnExactAddFiberWrong : ChangeSpec := { name := "fnExactAddFiber", fn := fun _ => fun
  | [d1, d2] => { results := [.lit (.bool false)], args := [d1, d2] }
  | _ => none }
def FnExactAddFiberWrongFalsely : Prop := fnExactAddFiberRow.holds Try.pinned (OpenSpec.ofChange fnExactAddFiberWrong)

/- THE SECOND FORM. 'bulk': how many values and letters a reading holds, each counted each time it is reached (what is shared counts as often as it is met; a slice's spare places count too). A statement '..UptoSaid' is the law's where the arguments, and the package variables that the reading takes, are together of bulk at most 1048576: NARROWER than '..Said'. Prove '..Said' where nothing that the law and all that it calls make is longer than what came in: it says more and counts as full. Else prove '..UptoSaid'. A law counts once. -/
mutual
def uptoBulk {H : Type} : DataW H → Nat
  | .lit (.string bytes) => bytes.length + 1
  | .lit _ => 1
  | .nil => 1
  | .ptr d => uptoBulk d + 1
  | .slice elems spare => uptoBulkAll elems + uptoBulkAll spare + 1
  | .agg parts => uptoBulkAll parts + 1
  | .iface _ d => uptoBulk d + 1
  | .map entries => uptoBulkEntries entries + 1
  | .held _ => 1
def uptoBulkAll {H : Type} : List (DataW H) → Nat
  | [] => 0
  | d :: r => uptoBulk d + uptoBulkAll r
def uptoBulkEntries {H : Type} : List (Lit × DataW H) → Nat
  | [] => 0
  | x :: r => uptoBulkEntry x + uptoBulkEntries r
def uptoBulkEntry {H : Type} : Lit × DataW H → Nat
  | (.string bytes, d) => bytes.length + uptoBulk d + 1
  | (_, d) => uptoBulk d + 1
 end
def uptoSmall : (H : Type) → List (DataW H) → Bool := fun _ ds => decide (uptoBulkAll ds ≤ 1048576)
def OpenSpec.upto (s : _root_.Go.ChangeSpec) : _root_.Go.OpenSpec := { _root_.Go.OpenSpec.ofChange s with cond := some uptoSmall }

/-- 'laws.FnExactDelayGrowth', WHERE WHAT IT READS IS OF BULK AT MOST 1048576: true; the input reads as it did. -/
def fnExactDelayGrowthUptoRow : OpenClaim := { program := "ytlmemmcdabhooaa", sum := "7680125a1d3f4cdcd381486af5620caec017deaf962593dddf0aa647a2499dfa", func := "loop.example/g00897/laws.FnExactDelayGrowth", spec := "fnExactDelayGrowth", apart := false, narrowed := true }
def FnExactDelayGrowthUptoSaid : Prop := fnExactDelayGrowthUptoRow.holds Try.pinned (OpenSpec.upto fnExactDelayGrowthSpec)

/-- 'laws.FnExactRemoveLight', WHERE WHAT IT READS IS OF BULK AT MOST 1048576: true; the input reads as it did. -/
def fnExactRemoveLightUptoRow : OpenClaim := { program := "ytlmemmcdabhooaa", sum := "7680125a1d3f4cdcd381486af5620caec017deaf962593dddf0aa647a2499dfa", func := "loop.example/g00897/laws.FnExactRemoveLight", spec := "fnExactRemoveLight", apart := false, narrowed := true }
def FnExactRemoveLightUptoSaid : Prop := fnExactRemoveLightUptoRow.holds Try.pinned (OpenSpec.upto fnExactRemoveLightSpec)

/-- 'laws.FnExactRemoveFibers', WHERE WHAT IT READS IS OF BULK AT MOST 1048576: true; the input reads as it did. -/
def fnExactRemoveFibersUptoRow : OpenClaim := { program := "ytlmemmcdabhooaa", sum := "7680125a1d3f4cdcd381486af5620caec017deaf962593dddf0aa647a2499dfa", func := "loop.example/g00897/laws.FnExactRemoveFibers", spec := "fnExactRemoveFibers", apart := false, narrowed := true }
def FnExactRemoveFibersUptoSaid : Prop := fnExactRemoveFibersUptoRow.holds Try.pinned (OpenSpec.upto fnExactRemoveFibersSpec)

/-- 'laws.FnExactJoinRoutes', WHERE WHAT IT READS IS OF BULK AT MOST 1048576: true; the input reads as it did. -/
def fnExactJoinRoutesUptoRow : OpenClaim := { program := "ytlmemmcdabhooaa", sum := "7680125a1d3f4cdcd381486af5620caec017deaf962593dddf0aa647a2499dfa", func := "loop.example/g00897/laws.FnExactJoinRoutes", spec := "fnExactJoinRoutes", apart := false, narrowed := true }
def FnExactJoinRoutesUptoSaid : Prop := fnExactJoinRoutesUptoRow.holds Try.pinned (OpenSpec.upto fnExactJoinRoutesSpec)

/-- 'laws.FnExactPackDescending', WHERE WHAT IT READS IS OF BULK AT MOST 1048576: true; the input reads as it did. -/
def fnExactPackDescendingUptoRow : OpenClaim := { program := "ytlmemmcdabhooaa", sum := "7680125a1d3f4cdcd381486af5620caec017deaf962593dddf0aa647a2499dfa", func := "loop.example/g00897/laws.FnExactPackDescending", spec := "fnExactPackDescending", unfollowed := true, recurses := true, apart := false, narrowed := true }
def FnExactPackDescendingUptoSaid : Prop := fnExactPackDescendingUptoRow.holds Try.pinned (OpenSpec.upto fnExactPackDescendingSpec)

/-- 'laws.FnExactAreDisjoint', WHERE WHAT IT READS IS OF BULK AT MOST 1048576: true; the input reads as it did. -/
def fnExactAreDisjointUptoRow : OpenClaim := { program := "ytlmemmcdabhooaa", sum := "7680125a1d3f4cdcd381486af5620caec017deaf962593dddf0aa647a2499dfa", func := "loop.example/g00897/laws.FnExactAreDisjoint", spec := "fnExactAreDisjoint", unfollowed := true, recurses := true, apart := false, narrowed := true }
def FnExactAreDisjointUptoSaid : Prop := fnExactAreDisjointUptoRow.holds Try.pinned (OpenSpec.upto fnExactAreDisjointSpec)

/-- 'laws.FnExactAlarmBursts', WHERE WHAT IT READS IS OF BULK AT MOST 1048576: true; the input reads as it did. -/
def fnExactAlarmBurstsUptoRow : OpenClaim := { program := "ytlmemmcdabhooaa", sum := "7680125a1d3f4cdcd381486af5620caec017deaf962593dddf0aa647a2499dfa", func := "loop.example/g00897/laws.FnExactAlarmBursts", spec := "fnExactAlarmBursts", recurses := true, apart := false, narrowed := true }
def FnExactAlarmBurstsUptoSaid : Prop := fnExactAlarmBurstsUptoRow.holds Try.pinned (OpenSpec.upto fnExactAlarmBurstsSpec)

/-- 'laws.FnExactAddFiber', WHERE WHAT IT READS IS OF BULK AT MOST 1048576: true; the input reads as it did. -/
def fnExactAddFiberUptoRow : OpenClaim := { program := "ytlmemmcdabhooaa", sum := "7680125a1d3f4cdcd381486af5620caec017deaf962593dddf0aa647a2499dfa", func := "loop.example/g00897/laws.FnExactAddFiber", spec := "fnExactAddFiber", apart := false, narrowed := true }
def FnExactAddFiberUptoSaid : Prop := fnExactAddFiberUptoRow.holds Try.pinned (OpenSpec.upto fnExactAddFiberSpec)

end Rows
end Go.Proofs.Ytlmemmcdabhooaa
