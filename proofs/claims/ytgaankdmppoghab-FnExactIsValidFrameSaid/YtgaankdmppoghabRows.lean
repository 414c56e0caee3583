/-
  No cell of these rows narrows 'for every input' (looked for: loops, veiled, ifaces, maps, wideKeys, modest, calm, conditions, laid).
  DERIVED. THE GIVEN ROWS OF THIS SEAT. 8 by the template 'for every input the law returns true; each argument reads behind the call as it read before'; 0 by the template 'total and deterministic' (their statements: YtgaankdmppoghabTotals.lean).
  GIVEN WITH THE SEED: the statements are not yours to turn. If you find one false, say at which input.
  Laid BY PROGRAM, IN A SANDBOX (cutbox-rows.mjs): the forced cells as the released guide's own fill.sh prints them over the translation 87a4b84cbbbd387c… (all of the seat's roots in one cut). By AI agents, Wed Nov 11 2026. No macro, syntax, notation, axiom, sorry.
-/
import Derived.Test.YtgaankdmppoghabChecked
import GoSem.Claim
import GoSem.ClaimJoined
import GoSem.ClaimMapViews
import Derived.JoinedTies
import Derived.KernelRfl
namespace Go.Proofs.Ytgaankdmppoghab
/- THE CELL 'sum', in the pinned program and in every row, IS THE sha256 OF THE DUMP (.gsa) THAT YtgaankdmppoghabProg.lean LOADS. Nothing in Lean hashes anything: it is a label: what it is worth is what the hold of that sum in a sandbox is worth. -/
noncomputable def Try.pinned : Pinned := { name := "ytgaankdmppoghab", sum := "87a4b84cbbbd387c4f7a73f25f2a4700da7a5ae8a712d29e074ec462d2045178", checked := Try.checked }
namespace Rows
def none {H : Type} : Left H := { results := [], args := [] }

/-- 'laws.FnExactIsValidFrame': WHATEVER THE INPUT: true; the input reads as it did. -/
def fnExactIsValidFrameSpec : ChangeSpec := { name := "fnExactIsValidFrame", fn := fun _ => fun
  | [d] => { results := [.lit (.bool true)], args := [d] }
  | _ => none }
def fnExactIsValidFrameRow : OpenClaim := { program := "ytgaankdmppoghab", sum := "87a4b84cbbbd387c4f7a73f25f2a4700da7a5ae8a712d29e074ec462d2045178", func := "loop.example/g00897/laws.FnExactIsValidFrame", spec := "fnExactIsValidFrame", apart := false }
def FnExactIsValidFrameSaid : Prop := fnExactIsValidFrameRow.holds Try.pinned (OpenSpec.ofChange fnExactIsValidFrameSpec)

/-- ITS FALSE NEIGHBOUR: 'it returns false'. Refute it at one input. -/
def fnExactIsValidFrameWrong : ChangeSpec := { name := "fnExactIsValidFrame", fn := fun _ => fun
  | [d] => { results := [.lit (.bool false)], args := [d] }
  | _ => none }
def FnExactIsValidFrameWrongFalsely : Prop := fnExactIsValidFrameRow.holds Try.pinned (OpenSpec.ofChange fnExactIsValidFrameWrong)

/-- 'laws.FnExactPackInOrder': WHATEVER THE INPUT: true; the input reads as it did. -/
def fnExactPackInOrderSpec : ChangeSpec := { name := "fnExactPackInOrder", fn := fun _ => fun
  | [d1, d2] => { results := [.lit (.bool true)], args := [d1, d2] }
  | _ => none }
def fnExactPackInOrderRow : OpenClaim := { program := "ytgaankdmppoghab", sum := "87a4b84cbbbd387c4f7a73f25f2a4700da7a5ae8a712d29e074ec462d2045178", func := "loop.example/g00897/laws.FnExactPackInOrder", spec := "fnExactPackInOrder", apart := false }
def FnExactPackInOrderSaid : Prop := fnExactPackInOrderRow.holds Try.pinned (OpenSpec.ofChange fnExactPackInOrderSpec)

/-- ITS FALSE NEIGHBOUR: 'it returns false'. Refute it at one input. -/
def fnExactPackInOrderWrong : ChangeSpec := { name := "fnExactPackInOrder", fn := fun _ => fun
  | [d1, d2] => { results := [.lit (.bool false)], args := [d1, d2] }
  | _ => none }
def FnExactPackInOrderWrongFalsely : Prop := fnExactPackInOrderRow.holds Try.pinned (OpenSpec.ofChange fnExactPackInOrderWrong)

/-- 'laws.FnExactPackDescending': WHATEVER THE INPUT: true; the input reads as it did. -/
def fnExactPackDescendingSpec : ChangeSpec := { name := "fnExactPackDescending", fn := fun _ => fun
  | [d1, d2] => { results := [.lit (.bool true)], args := [d1, d2] }
  | _ => none }
def fnExactPackDescendingRow : OpenClaim := { program := "ytgaankdmppoghab", sum := "87a4b84cbbbd387c4f7a73f25f2a4700da7a5ae8a712d29e074ec462d2045178", func := "loop.example/g00897/laws.FnExactPackDescending", spec := "fnExactPackDescending", unfollowed := true, recurses := true, apart := false }
def FnExactPackDescendingSaid : Prop := fnExactPackDescendingRow.holds Try.pinned (OpenSpec.ofChange fnExactPackDescendingSpec)

/-- ITS FALSE NEIGHBOUR: 'it returns false'. Refute it at one input. -/
def fnExactPackDescendingWrong : ChangeSpec := { name := "fnExactPackDescending", fn := fun _ => fun
  | [d1, d2] => { results := [.lit (.bool false)], args := [d1, d2] }
  | _ => none }
def FnExactPackDescendingWrongFalsely : Prop := fnExactPackDescendingRow.holds Try.pinned (OpenSpec.ofChange fnExactPackDescendingWrong)

/-- 'laws.FnExactAlarmBursts': WHATEVER THE INPUT: true; the input reads as it did. -/
def fnExactAlarmBurstsSpec : ChangeSpec := { name := "fnExactAlarmBursts", fn := fun _ => fun
  | [d1, d2] => { results := [.lit (.bool true)], args := [d1, d2] }
  | _ => none }
def fnExactAlarmBurstsRow : OpenClaim := { program := "ytgaankdmppoghab", sum := "87a4b84cbbbd387c4f7a73f25f2a4700da7a5ae8a712d29e074ec462d2045178", func := "loop.example/g00897/laws.FnExactAlarmBursts", spec := "fnExactAlarmBursts", recurses := true, apart := false }
def FnExactAlarmBurstsSaid : Prop := fnExactAlarmBurstsRow.holds Try.pinned (OpenSpec.ofChange fnExactAlarmBurstsSpec)

/-- ITS FALSE NEIGHBOUR: 'it returns false'. Refute it at one input. -/
def fnExactAlarmBurstsWrong : ChangeSpec := { name := "fnExactAlarmBursts", fn := fun _ => fun
  | [d1, d2] => { results := [.lit (.bool false)], args := [d1, d2] }
  | _ => none }
def FnExactAlarmBurstsWrongFalsely : Prop := fnExactAlarmBurstsRow.holds Try.pinned (OpenSpec.ofChange fnExactAlarmBurstsWrong)

/-- 'laws.FnExactActiveGrowth': WHATEVER THE INPUT: true; the input reads as it did. -/
def fnExactActiveGrowthSpec : ChangeSpec := { name := "fnExactActiveGrowth", fn := fun _ => fun
  | [d1, d2, d3] => { results := [.lit (.bool true)], args := [d1, d2, d3] }
  | _ => none }
def fnExactActiveGrowthRow : OpenClaim := { program := "ytgaankdmppoghab", sum := "87a4b84cbbbd387c4f7a73f25f2a4700da7a5ae8a712d29e074ec462d2045178", func := "loop.example/g00897/laws.FnExactActiveGrowth", spec := "fnExactActiveGrowth", apart := false }
def FnExactActiveGrowthSaid : Prop := fnExactActiveGrowthRow.holds Try.pinned (OpenSpec.ofChange fnExactActiveGrowthSpec)

/-- ITS FALSE NEIGHBOUR: 'it returns false'. Refute it at one input. -/
def fnExactActiveGrowthWrong : ChangeSpec := { name := "fnExactActiveGrowth", fn := fun _ => fun
  | [d1, d2, d3] => { results := [.lit (.bool false)], args := [d1, d2, d3] }
  | _ => none }
def FnExactActiveGrowthWrongFalsely : Prop := fnExactActiveGrowthRow.holds Try.pinned (OpenSpec.ofChange fnExactActiveGrowthWrong)

/-- 'laws.FnExactIsValidGrowth': WHATEVER THE INPUT: true; the input reads as it did. -/
def fnExactIsValidGrowthSpec : ChangeSpec := { name := "fnExactIsValidGrowth", fn := fun _ => fun
  | [d1, d2] => { results := [.lit (.bool true)], args := [d1, d2] }
  | _ => none }
def fnExactIsValidGrowthRow : OpenClaim := { program := "ytgaankdmppoghab", sum := "87a4b84cbbbd387c4f7a73f25f2a4700da7a5ae8a712d29e074ec462d2045178", func := "loop.example/g00897/laws.FnExactIsValidGrowth", spec := "fnExactIsValidGrowth", apart := false }
def FnExactIsValidGrowthSaid : Prop := fnExactIsValidGrowthRow.holds Try.pinned (OpenSpec.ofChange fnExactIsValidGrowthSpec)

/-- ITS FALSE NEIGHBOUR: 'it returns false'. Refute it at one input. -/
def fnExactIsValidGrowthWrong : ChangeSpec := { name := "fnExactIsValidGrowth", fn := fun _ => fun
  | [d1, d2] => { results := [.lit (.bool false)], args := [d1, d2] }
  | _ => none }
def FnExactIsValidGrowthWrongFalsely : Prop := fnExactIsValidGrowthRow.holds Try.pinned (OpenSpec.ofChange fnExactIsValidGrowthWrong)

/-- 'laws.FnExactSyndromesOf': WHATEVER THE INPUT: true; the input reads as it did. -/
def fnExactSyndromesOfSpec : ChangeSpec := { name := "fnExactSyndromesOf", fn := fun _ => fun
  | [d] => { results := [.lit (.bool true)], args := [d] }
  | _ => none }
def fnExactSyndromesOfRow : OpenClaim := { program := "ytgaankdmppoghab", sum := "87a4b84cbbbd387c4f7a73f25f2a4700da7a5ae8a712d29e074ec462d2045178", func := "loop.example/g00897/laws.FnExactSyndromesOf", spec := "fnExactSyndromesOf", apart := false }
def FnExactSyndromesOfSaid : Prop := fnExactSyndromesOfRow.holds Try.pinned (OpenSpec.ofChange fnExactSyndromesOfSpec)

/-- ITS FALSE NEIGHBOUR: 'it returns false'. Refute it at one input. -/
def fnExactSyndromesOfWrong : ChangeSpec := { name := "fnExactSyndromesOf", fn := fun _ => fun
  | [d] => { results := [.lit (.bool false)], args := [d] }
  | _ => none }
def FnExactSyndromesOfWrongFalsely : Prop := fnExactSyndromesOfRow.holds Try.pinned (OpenSpec.ofChange fnExactSyndromesOfWrong)

/-- 'laws.FnExactWriteContainers': WHATEVER THE INPUT: true; the input reads as it did. -/
def fnExactWriteContainersSpec : ChangeSpec := { name := "fnExactWriteContainers", fn := fun _ => fun
  | [d1, d2] => { results := [.lit (.bool true)], args := [d1, d2] }
  | _ => none }
def fnExactWriteContainersRow : OpenClaim := { program := "ytgaankdmppoghab", sum := "87a4b84cbbbd387c4f7a73f25f2a4700da7a5ae8a712d29e074ec462d2045178", func := "loop.example/g00897/laws.FnExactWriteContainers", spec := "fnExactWriteContainers", apart := false }
def FnExactWriteContainersSaid : Prop := fnExactWriteContainersRow.holds Try.pinned (OpenSpec.ofChange fnExactWriteContainersSpec)

/-- ITS FALSE NEIGHBOUR: 'it returns false'. Refute it at one input. -/
def fnExactWriteContainersWrong : ChangeSpec := { name := "fnExactWriteContainers", fn := fun _ => fun
  | [d1, d2] => { results := [.lit (.bool false)], args := [d1, d2] }
  | _ => none }
def FnExactWriteContainersWrongFalsely : Prop := fnExactWriteContainersRow.holds Try.pinned (OpenSpec.ofChange fnExactWriteContainersWrong)

/- THE SECOND FORM. 'bulk': how many values and letters a reading holds, each counted each time it is reached (what is shared counts as often as it is met; a slice's spare places count too). A statement '..UptoSaid' is the law's where the arguments, and the package variables that the reading takes, are together of bulk at most 1048576: NARROWER than '..Said'. Prove '..Said' where nothing that the law and all that it calls make is longer than what came in: it says more and counts as full. Else prove '..UptoSaid'. A law counts once. -/
mutual
def uptoBulk {H : Type} : DataW H → Nat
  | .lit (.string bytes) => bytes.length + 1
  | .lit _ => 1
  | .nil => 1
  | .ptr d => uptoBulk d + 1
  | .slice elems spare => uptoBulkAll elems + uptoBulkAll spare + 1
  | .agg parts => uptoBulkAll parts + 1
  | .iface _ d => uptoBulk d + 1
  | .map entries => uptoBulkEntries entries + 1
  | .held _ => 1
def uptoBulkAll {H : Type} : List (DataW H) → Nat
  | [] => 0
  | d :: r => uptoBulk d + uptoBulkAll r
def uptoBulkEntries {H : Type} : List (Lit × DataW H) → Nat
  | [] => 0
  | x :: r => uptoBulkEntry x + uptoBulkEntries r
def uptoBulkEntry {H : Type} : Lit × DataW H → Nat
  | (.string bytes, d) => bytes.length + uptoBulk d + 1
  | (_, d) => uptoBulk d + 1
 end
def uptoSmall : (H : Type) → List (DataW H) → Bool := fun _ ds => decide (uptoBulkAll ds ≤ 1048576)
def OpenSpec.upto (s : _root_.Go.ChangeSpec) : _root_.Go.OpenSpec := { _root_.Go.OpenSpec.ofChange s with cond := some uptoSmall }

/-- 'laws.FnExactIsValidFrame', WHERE WHAT IT READS IS OF BULK AT MOST 1048576: true; the input reads as it did. -/
def fnExactIsValidFrameUptoRow : OpenClaim := { program := "ytgaankdmppoghab", sum := "87a4b84cbbbd387c4f7a73f25f2a4700da7a5ae8a712d29e074ec462d2045178", func := "loop.example/g00897/laws.FnExactIsValidFrame", spec := "fnExactIsValidFrame", apart := false, narrowed := true }
def FnExactIsValidFrameUptoSaid : Prop := fnExactIsValidFrameUptoRow.holds Try.pinned (OpenSpec.upto fnExactIsValidFrameSpec)

/-- 'laws.FnExactPackInOrder', WHERE WHAT IT READS IS OF BULK AT MOST 1048576: true; the input reads as it did. -/
def fnExactPackInOrderUptoRow : OpenClaim := { program := "ytgaankdmppoghab", sum := "87a4b84cbbbd387c4f7a73f25f2a4700da7a5ae8a712d29e074ec462d2045178", func := "loop.example/g00897/laws.FnExactPackInOrder", spec := "fnExactPackInOrder", apart := false, narrowed := true }
def FnExactPackInOrderUptoSaid : Prop := fnExactPackInOrderUptoRow.holds Try.pinned (OpenSpec.upto fnExactPackInOrderSpec)

/-- 'laws.FnExactPackDescending', WHERE WHAT IT READS IS OF BULK AT MOST 1048576: true; the input reads as it did. -/
def fnExactPackDescendingUptoRow : OpenClaim := { program := "ytgaankdmppoghab", sum := "87a4b84cbbbd387c4f7a73f25f2a4700da7a5ae8a712d29e074ec462d2045178", func := "loop.example/g00897/laws.FnExactPackDescending", spec := "fnExactPackDescending", unfollowed := true, recurses := true, apart := false, narrowed := true }
def FnExactPackDescendingUptoSaid : Prop := fnExactPackDescendingUptoRow.holds Try.pinned (OpenSpec.upto fnExactPackDescendingSpec)

/-- 'laws.FnExactAlarmBursts', WHERE WHAT IT READS IS OF BULK AT MOST 1048576: true; the input reads as it did. -/
def fnExactAlarmBurstsUptoRow : OpenClaim := { program := "ytgaankdmppoghab", sum := "87a4b84cbbbd387c4f7a73f25f2a4700da7a5ae8a712d29e074ec462d2045178", func := "loop.example/g00897/laws.FnExactAlarmBursts", spec := "fnExactAlarmBursts", recurses := true, apart := false, narrowed := true }
def FnExactAlarmBurstsUptoSaid : Prop := fnExactAlarmBurstsUptoRow.holds Try.pinned (OpenSpec.upto fnExactAlarmBurstsSpec)

/-- 'laws.FnExactActiveGrowth', WHERE WHAT IT READS IS OF BULK AT MOST 1048576: true; the input reads as it did. -/
def fnExactActiveGrowthUptoRow : OpenClaim := { program := "ytgaankdmppoghab", sum := "87a4b84cbbbd387c4f7a73f25f2a4700da7a5ae8a712d29e074ec462d2045178", func := "loop.example/g00897/laws.FnExactActiveGrowth", spec := "fnExactActiveGrowth", apart := false, narrowed := true }
def FnExactActiveGrowthUptoSaid : Prop := fnExactActiveGrowthUptoRow.holds Try.pinned (OpenSpec.upto fnExactActiveGrowthSpec)

/-- 'laws.FnExactIsValidGrowth', WHERE WHAT IT READS IS OF BULK AT MOST 1048576: true; the input reads as it did. -/
def fnExactIsValidGrowthUptoRow : OpenClaim := { program := "ytgaankdmppoghab", sum := "87a4b84cbbbd387c4f7a73f25f2a4700da7a5ae8a712d29e074ec462d2045178", func := "loop.example/g00897/laws.FnExactIsValidGrowth", spec := "fnExactIsValidGrowth", apart := false, narrowed := true }
def FnExactIsValidGrowthUptoSaid : Prop := fnExactIsValidGrowthUptoRow.holds Try.pinned (OpenSpec.upto fnExactIsValidGrowthSpec)

/-- 'laws.FnExactSyndromesOf', WHERE WHAT IT READS IS OF BULK AT MOST 1048576: true; the input reads as it did. -/
def fnExactSyndromesOfUptoRow : OpenClaim := { program := "ytgaankdmppoghab", sum := "87a4b84cbbbd387c4f7a73f25f2a4700da7a5ae8a712d29e074ec462d2045178", func := "loop.example/g00897/laws.FnExactSyndromesOf", spec := "fnExactSyndromesOf", apart := false, narrowed := true }
def FnExactSyndromesOfUptoSaid : Prop := fnExactSyndromesOfUptoRow.holds Try.pinned (OpenSpec.upto fnExactSyndromesOfSpec)

/-- 'laws.FnExactWriteContainers', WHERE WHAT IT READS IS OF BULK AT MOST 1048576: true; the input reads as it did. -/
def fnExactWriteContainersUptoRow : OpenClaim := { program := "ytgaankdmppoghab", sum := "87a4b84cbbbd387c4f7a73f25f2a4700da7a5ae8a712d29e074ec462d2045178", func := "loop.example/g00897/laws.FnExactWriteContainers", spec := "fnExactWriteContainers", apart := false, narrowed := true }
def FnExactWriteContainersUptoSaid : Prop := fnExactWriteContainersUptoRow.holds Try.pinned (OpenSpec.upto fnExactWriteContainersSpec)

end Rows
end Go.Proofs.Ytgaankdmppoghab
