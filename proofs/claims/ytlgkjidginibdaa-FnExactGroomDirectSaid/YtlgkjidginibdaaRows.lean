/-
  No cell of these rows narrows 'for every input' (looked for: loops, veiled, ifaces, maps, wideKeys, modest, calm, conditions, laid).
  DERIVED. THE GIVEN ROWS OF THIS SEAT. 9 by the template 'for every input the law returns true; each argument reads behind the call as it read before'; 0 by the template 'total and deterministic' (their statements: YtlgkjidginibdaaTotals.lean).
  GIVEN WITH THE SEED: the statements are not yours to turn. If you find one false, say at which input.
  Laid BY PROGRAM, IN A SANDBOX (cutbox-rows.mjs): the forced cells as the released guide's own fill.sh prints them over the translation 46234e1c6eca2735… (all of the seat's roots in one cut). By AI agents, Wed Nov 11 2026. No macro, syntax, notation, axiom, sorry.
-/
import Derived.Test.YtlgkjidginibdaaChecked
import GoSem.Claim
import GoSem.ClaimJoined
import GoSem.ClaimMapViews
import Derived.JoinedTies
import Derived.KernelRfl
namespace Go.Proofs.Ytlgkjidginibdaa
/- THE CELL 'sum', in the pinned program and in every row, IS THE sha256 OF THE DUMP (.gsa) THAT YtlgkjidginibdaaProg.lean LOADS. Nothing in Lean hashes anything: it is a label: what it is worth is what the hold of that sum in a sandbox is worth. -/
noncomputable def Try.pinned : Pinned := { name := "ytlgkjidginibdaa", sum := "46234e1c6eca27358a585c4396297f9d271e0fd9ecbd011b56394356eaa55416", checked := Try.checked }
namespace Rows
def none {H : Type} : Left H := { results := [], args := [] }

/-- 'laws.FnExactAreCompatible': WHATEVER THE INPUT: true; the input reads as it did. -/
def fnExactAreCompatibleSpec : ChangeSpec := { name := "fnExactAreCompatible", fn := fun _ => fun
  | [d1, d2, d3] => { results := [.lit (.bool true)], args := [d1, d2, d3] }
  | _ => none }
def fnExactAreCompatibleRow : OpenClaim := { program := "ytlgkjidginibdaa", sum := "46234e1c6eca27358a585c4396297f9d271e0fd9ecbd011b56394356eaa55416", func := "loop.example/g00897/laws.FnExactAreCompatible", spec := "fnExactAreCompatible", apart := false }
def FnExactAreCompatibleSaid : Prop := fnExactAreCompatibleRow.holds Try.pinned (OpenSpec.ofChange fnExactAreCompatibleSpec)

/-- ITS FALSE NEIGHBOUR: 'it returns false'. Refute it at one input. -/
def fnExactAreCompatibleWrong : ChangeSpec := { name := "fnExactAreCompatible", fn := fun _ => fun
  | [d1, d2, d3] => { results := [.lit (.bool false)], args := [d1, d2, d3] }
  | _ => none }
def FnExactAreCompatibleWrongFalsely : Prop := fnExactAreCompatibleRow.holds Try.pinned (OpenSpec.ofChange fnExactAreCompatibleWrong)

/-- 'laws.FnExactIsValidServices': WHATEVER THE INPUT: true; the input reads as it did. -/
def fnExactIsValidServicesSpec : ChangeSpec := { name := "fnExactIsValidServices", fn := fun _ => fun
  | [d1, d2] => { results := [.lit (.bool true)], args := [d1, d2] }
  | _ => none }
def fnExactIsValidServicesRow : OpenClaim := { program := "ytlgkjidginibdaa", sum := "46234e1c6eca27358a585c4396297f9d271e0fd9ecbd011b56394356eaa55416", func := "loop.example/g00897/laws.FnExactIsValidServices", spec := "fnExactIsValidServices", apart := false }
def FnExactIsValidServicesSaid : Prop := fnExactIsValidServicesRow.holds Try.pinned (OpenSpec.ofChange fnExactIsValidServicesSpec)

/-- ITS FALSE NEIGHBOUR: 'it returns false'. Refute it at one input. -/
def fnExactIsValidServicesWrong : ChangeSpec := { name := "fnExactIsValidServices", fn := fun _ => fun
  | [d1, d2] => { results := [.lit (.bool false)], args := [d1, d2] }
  | _ => none }
def FnExactIsValidServicesWrongFalsely : Prop := fnExactIsValidServicesRow.holds Try.pinned (OpenSpec.ofChange fnExactIsValidServicesWrong)

/-- 'laws.FnExactDropService': WHATEVER THE INPUT: true; the input reads as it did. -/
def fnExactDropServiceSpec : ChangeSpec := { name := "fnExactDropService", fn := fun _ => fun
  | [d1, d2, d3] => { results := [.lit (.bool true)], args := [d1, d2, d3] }
  | _ => none }
def fnExactDropServiceRow : OpenClaim := { program := "ytlgkjidginibdaa", sum := "46234e1c6eca27358a585c4396297f9d271e0fd9ecbd011b56394356eaa55416", func := "loop.example/g00897/laws.FnExactDropService", spec := "fnExactDropService", unfollowed := true, recurses := true, apart := false }
def FnExactDropServiceSaid : Prop := fnExactDropServiceRow.holds Try.pinned (OpenSpec.ofChange fnExactDropServiceSpec)

/-- ITS FALSE NEIGHBOUR: 'it returns false'. Refute it at one input. -/
def fnExactDropServiceWrong : ChangeSpec := { name := "fnExactDropService", fn := fun _ => fun
  | [d1, d2, d3] => { results := [.lit (.bool false)], args := [d1, d2, d3] }
  | _ => none }
def FnExactDropServiceWrongFalsely : Prop := fnExactDropServiceRow.holds Try.pinned (OpenSpec.ofChange fnExactDropServiceWrong)

/-- 'laws.FnExactStartRestoration': WHATEVER THE INPUT: true; the input reads as it did. -/
def fnExactStartRestorationSpec : ChangeSpec := { name := "fnExactStartRestoration", fn := fun _ => fun
  | [d] => { results := [.lit (.bool true)], args := [d] }
  | _ => none }
def fnExactStartRestorationRow : OpenClaim := { program := "ytlgkjidginibdaa", sum := "46234e1c6eca27358a585c4396297f9d271e0fd9ecbd011b56394356eaa55416", func := "loop.example/g00897/laws.FnExactStartRestoration", spec := "fnExactStartRestoration", apart := false }
def FnExactStartRestorationSaid : Prop := fnExactStartRestorationRow.holds Try.pinned (OpenSpec.ofChange fnExactStartRestorationSpec)

/-- ITS FALSE NEIGHBOUR: 'it returns false'. Refute it at one input. -/
def fnExactStartRestorationWrong : ChangeSpec := { name := "fnExactStartRestoration", fn := fun _ => fun
  | [d] => { results := [.lit (.bool false)], args := [d] }
  | _ => none }
def FnExactStartRestorationWrongFalsely : Prop := fnExactStartRestorationRow.holds Try.pinned (OpenSpec.ofChange fnExactStartRestorationWrong)

/-- 'laws.FnExactMoveLight': WHATEVER THE INPUT: true; the input reads as it did. -/
def fnExactMoveLightSpec : ChangeSpec := { name := "fnExactMoveLight", fn := fun _ => fun
  | [d1, d2, d3, d4] => { results := [.lit (.bool true)], args := [d1, d2, d3, d4] }
  | _ => none }
def fnExactMoveLightRow : OpenClaim := { program := "ytlgkjidginibdaa", sum := "46234e1c6eca27358a585c4396297f9d271e0fd9ecbd011b56394356eaa55416", func := "loop.example/g00897/laws.FnExactMoveLight", spec := "fnExactMoveLight", apart := false }
def FnExactMoveLightSaid : Prop := fnExactMoveLightRow.holds Try.pinned (OpenSpec.ofChange fnExactMoveLightSpec)

/-- ITS FALSE NEIGHBOUR: 'it returns false'. Refute it at one input. -/
def fnExactMoveLightWrong : ChangeSpec := { name := "fnExactMoveLight", fn := fun _ => fun
  | [d1, d2, d3, d4] => { results := [.lit (.bool false)], args := [d1, d2, d3, d4] }
  | _ => none }
def FnExactMoveLightWrongFalsely : Prop := fnExactMoveLightRow.holds Try.pinned (OpenSpec.ofChange fnExactMoveLightWrong)

/-- 'laws.FnExactGroomDirect': WHATEVER THE INPUT: true; the input reads as it did. -/
def fnExactGroomDirectSpec : ChangeSpec := { name := "fnExactGroomDirect", fn := fun _ => fun
  | [d1, d2, d3] => { results := [.lit (.bool true)], args := [d1, d2, d3] }
  | _ => none }
def fnExactGroomDirectRow : OpenClaim := { program := "ytlgkjidginibdaa", sum := "46234e1c6eca27358a585c4396297f9d271e0fd9ecbd011b56394356eaa55416", func := "loop.example/g00897/laws.FnExactGroomDirect", spec := "fnExactGroomDirect", unfollowed := true, recurses := true, apart := false }
def FnExactGroomDirectSaid : Prop := fnExactGroomDirectRow.holds Try.pinned (OpenSpec.ofChange fnExactGroomDirectSpec)

/-- ITS FALSE NEIGHBOUR: 'it returns false'. Refute it at one input. -/
def fnExactGroomDirectWrong : ChangeSpec := { name := "fnExactGroomDirect", fn := fun _ => fun
  | [d1, d2, d3] => { results := [.lit (.bool false)], args := [d1, d2, d3] }
  | _ => none }
def FnExactGroomDirectWrongFalsely : Prop := fnExactGroomDirectRow.holds Try.pinned (OpenSpec.ofChange fnExactGroomDirectWrong)

/-- 'laws.FnExactLinkLoads': WHATEVER THE INPUT: true; the input reads as it did. -/
def fnExactLinkLoadsSpec : ChangeSpec := { name := "fnExactLinkLoads", fn := fun _ => fun
  | [d1, d2, d3, d4] => { results := [.lit (.bool true)], args := [d1, d2, d3, d4] }
  | _ => none }
def fnExactLinkLoadsRow : OpenClaim := { program := "ytlgkjidginibdaa", sum := "46234e1c6eca27358a585c4396297f9d271e0fd9ecbd011b56394356eaa55416", func := "loop.example/g00897/laws.FnExactLinkLoads", spec := "fnExactLinkLoads", apart := false }
def FnExactLinkLoadsSaid : Prop := fnExactLinkLoadsRow.holds Try.pinned (OpenSpec.ofChange fnExactLinkLoadsSpec)

/-- ITS FALSE NEIGHBOUR: 'it returns false'. Refute it at one input. -/
def fnExactLinkLoadsWrong : ChangeSpec := { name := "fnExactLinkLoads", fn := fun _ => fun
  | [d1, d2, d3, d4] => { results := [.lit (.bool false)], args := [d1, d2, d3, d4] }
  | _ => none }
def FnExactLinkLoadsWrongFalsely : Prop := fnExactLinkLoadsRow.holds Try.pinned (OpenSpec.ofChange fnExactLinkLoadsWrong)

/-- 'laws.FnExactAlarmBursts': WHATEVER THE INPUT: true; the input reads as it did. -/
def fnExactAlarmBurstsSpec : ChangeSpec := { name := "fnExactAlarmBursts", fn := fun _ => fun
  | [d1, d2] => { results := [.lit (.bool true)], args := [d1, d2] }
  | _ => none }
def fnExactAlarmBurstsRow : OpenClaim := { program := "ytlgkjidginibdaa", sum := "46234e1c6eca27358a585c4396297f9d271e0fd9ecbd011b56394356eaa55416", func := "loop.example/g00897/laws.FnExactAlarmBursts", spec := "fnExactAlarmBursts", recurses := true, apart := false }
def FnExactAlarmBurstsSaid : Prop := fnExactAlarmBurstsRow.holds Try.pinned (OpenSpec.ofChange fnExactAlarmBurstsSpec)

/-- ITS FALSE NEIGHBOUR: 'it returns false'. Refute it at one input. -/
def fnExactAlarmBurstsWrong : ChangeSpec := { name := "fnExactAlarmBursts", fn := fun _ => fun
  | [d1, d2] => { results := [.lit (.bool false)], args := [d1, d2] }
  | _ => none }
def FnExactAlarmBurstsWrongFalsely : Prop := fnExactAlarmBurstsRow.holds Try.pinned (OpenSpec.ofChange fnExactAlarmBurstsWrong)

/-- 'laws.FnExactWriteContainers': WHATEVER THE INPUT: true; the input reads as it did. -/
def fnExactWriteContainersSpec : ChangeSpec := { name := "fnExactWriteContainers", fn := fun _ => fun
  | [d1, d2] => { results := [.lit (.bool true)], args := [d1, d2] }
  | _ => none }
def fnExactWriteContainersRow : OpenClaim := { program := "ytlgkjidginibdaa", sum := "46234e1c6eca27358a585c4396297f9d271e0fd9ecbd011b56394356eaa55416", func := "loop.example/g00897/laws.FnExactWriteContainers", spec := "fnExactWriteContainers", apart := false }
def FnExactWriteContainersSaid : Prop := fnExactWriteContainersRow.holds Try.pinned (OpenSpec.ofChange fnExactWriteContainersSpec)

/-- ITS FALSE NEIGHBOUR: 'it returns false'. Refute it at one input. -/
def fnExactWriteContainersWrong : ChangeSpec := { name := "fnExactWriteContainers", fn := fun _ => fun
  | [d1, d2] => { results := [.lit (.bool false)], args := [d1, d2] }
  | _ => none }
def FnExactWriteContainersWrongFalsely : Prop := fnExactWriteContainersRow.holds Try.pinned (OpenSpec.ofChange fnExactWriteContainersWrong)

/- THE SECOND FORM. 'bulk': how many values and letters a reading holds, each counted each time it is reached (what is shared counts as often as it is met; a slice's spare places count too). A statement '..UptoSaid' is the law's where the arguments, and the package variables that the reading takes, are together of bulk at most 1048576: NARROWER than '..Said'. Prove '..Said' where nothing that the law and all that it calls make is longer than what came in: it says more and counts as full. Else prove '..UptoSaid'. A law counts once. -/
mutual
def uptoBulk {H : Type} : DataW H → Nat
  | .lit (.string bytes) => bytes.length + 1
  | .lit _ => 1
  | .nil => 1
  | .ptr d => uptoBulk d + 1
  | .slice elems spare => uptoBulkAll elems + uptoBulkAll spare + 1
  | .agg parts => uptoBulkAll parts + 1
  | .iface _ d => uptoBulk d + 1
  | .map entries => uptoBulkEntries entries + 1
  | .held _ => 1
def uptoBulkAll {H : Type} : List (DataW H) → Nat
  | [] => 0
  | d :: r => uptoBulk d + uptoBulkAll r
def uptoBulkEntries {H : Type} : List (Lit × DataW H) → Nat
  | [] => 0
  | x :: r => uptoBulkEntry x + uptoBulkEntries r
def uptoBulkEntry {H : Type} : Lit × DataW H → Nat
  | (.string bytes, d) => bytes.length + uptoBulk d + 1
  | (_, d) => uptoBulk d + 1
 end
def uptoSmall : (H : Type) → List (DataW H) → Bool := fun _ ds => decide (uptoBulkAll ds ≤ 1048576)
def OpenSpec.upto (s : _root_.Go.ChangeSpec) : _root_.Go.OpenSpec := { _root_.Go.OpenSpec.ofChange s with cond := some uptoSmall }

/-- 'laws.FnExactAreCompatible', WHERE WHAT IT READS IS OF BULK AT MOST 1048576: true; the input reads as it did. -/
def fnExactAreCompatibleUptoRow : OpenClaim := { program := "ytlgkjidginibdaa", sum := "46234e1c6eca27358a585c4396297f9d271e0fd9ecbd011b56394356eaa55416", func := "loop.example/g00897/laws.FnExactAreCompatible", spec := "fnExactAreCompatible", apart := false, narrowed := true }
def FnExactAreCompatibleUptoSaid : Prop := fnExactAreCompatibleUptoRow.holds Try.pinned (OpenSpec.upto fnExactAreCompatibleSpec)

/-- 'laws.FnExactIsValidServices', WHERE WHAT IT READS IS OF BULK AT MOST 1048576: true; the input reads as it did. -/
def fnExactIsValidServicesUptoRow : OpenClaim := { program := "ytlgkjidginibdaa", sum := "46234e1c6eca27358a585c4396297f9d271e0fd9ecbd011b56394356eaa55416", func := "loop.example/g00897/laws.FnExactIsValidServices", spec := "fnExactIsValidServices", apart := false, narrowed := true }
def FnExactIsValidServicesUptoSaid : Prop := fnExactIsValidServicesUptoRow.holds Try.pinned (OpenSpec.upto fnExactIsValidServicesSpec)

/-- 'laws.FnExactDropService', WHERE WHAT IT READS IS OF BULK AT MOST 1048576: true; the input reads as it did. -/
def fnExactDropServiceUptoRow : OpenClaim := { program := "ytlgkjidginibdaa", sum := "46234e1c6eca27358a585c4396297f9d271e0fd9ecbd011b56394356eaa55416", func := "loop.example/g00897/laws.FnExactDropService", spec := "fnExactDropService", unfollowed := true, recurses := true, apart := false, narrowed := true }
def FnExactDropServiceUptoSaid : Prop := fnExactDropServiceUptoRow.holds Try.pinned (OpenSpec.upto fnExactDropServiceSpec)

/-- 'laws.FnExactStartRestoration', WHERE WHAT IT READS IS OF BULK AT MOST 1048576: true; the input reads as it did. -/
def fnExactStartRestorationUptoRow : OpenClaim := { program := "ytlgkjidginibdaa", sum := "46234e1c6eca27358a585c4396297f9d271e0fd9ecbd011b56394356eaa55416", func := "loop.example/g00897/laws.FnExactStartRestoration", spec := "fnExactStartRestoration", apart := false, narrowed := true }
def FnExactStartRestorationUptoSaid : Prop := fnExactStartRestorationUptoRow.holds Try.pinned (OpenSpec.upto fnExactStartRestorationSpec)

/-- 'laws.FnExactMoveLight', WHERE WHAT IT READS IS OF BULK AT MOST 1048576: true; the input reads as it did. -/
def fnExactMoveLightUptoRow : OpenClaim := { program := "ytlgkjidginibdaa", sum := "46234e1c6eca27358a585c4396297f9d271e0fd9ecbd011b56394356eaa55416", func := "loop.example/g00897/laws.FnExactMoveLight", spec := "fnExactMoveLight", apart := false, narrowed := true }
def FnExactMoveLightUptoSaid : Prop := fnExactMoveLightUptoRow.holds Try.pinned (OpenSpec.upto fnExactMoveLightSpec)

/-- 'laws.FnExactGroomDirect', WHERE WHAT IT READS IS OF BULK AT MOST 1048576: true; the input reads as it did. -/
def fnExactGroomDirectUptoRow : OpenClaim := { program := "ytlgkjidginibdaa", sum := "46234e1c6eca27358a585c4396297f9d271e0fd9ecbd011b56394356eaa55416", func := "loop.example/g00897/laws.FnExactGroomDirect", spec := "fnExactGroomDirect", unfollowed := true, recurses := true, apart := false, narrowed := true }
def FnExactGroomDirectUptoSaid : Prop := fnExactGroomDirectUptoRow.holds Try.pinned (OpenSpec.upto fnExactGroomDirectSpec)

/-- 'laws.FnExactLinkLoads', WHERE WHAT IT READS IS OF BULK AT MOST 1048576: true; the input reads as it did. -/
def fnExactLinkLoadsUptoRow : OpenClaim := { program := "ytlgkjidginibdaa", sum := "46234e1c6eca27358a585c4396297f9d271e0fd9ecbd011b56394356eaa55416", func := "loop.example/g00897/laws.FnExactLinkLoads", spec := "fnExactLinkLoads", apart := false, narrowed := true }
def FnExactLinkLoadsUptoSaid : Prop := fnExactLinkLoadsUptoRow.holds Try.pinned (OpenSpec.upto fnExactLinkLoadsSpec)

/-- 'laws.FnExactAlarmBursts', WHERE WHAT IT READS IS OF BULK AT MOST 1048576: true; the input reads as it did. -/
def fnExactAlarmBurstsUptoRow : OpenClaim := { program := "ytlgkjidginibdaa", sum := "46234e1c6eca27358a585c4396297f9d271e0fd9ecbd011b56394356eaa55416", func := "loop.example/g00897/laws.FnExactAlarmBursts", spec := "fnExactAlarmBursts", recurses := true, apart := false, narrowed := true }
def FnExactAlarmBurstsUptoSaid : Prop := fnExactAlarmBurstsUptoRow.holds Try.pinned (OpenSpec.upto fnExactAlarmBurstsSpec)

/-- 'laws.FnExactWriteContainers', WHERE WHAT IT READS IS OF BULK AT MOST 1048576: true; the input reads as it did. -/
def fnExactWriteContainersUptoRow : OpenClaim := { program := "ytlgkjidginibdaa", sum := "46234e1c6eca27358a585c4396297f9d271e0fd9ecbd011b56394356eaa55416", func := "loop.example/g00897/laws.FnExactWriteContainers", spec := "fnExactWriteContainers", apart := false, narrowed := true }
def FnExactWriteContainersUptoSaid : Prop := fnExactWriteContainersUptoRow.holds Try.pinned (OpenSpec.upto fnExactWriteContainersSpec)

end Rows
end Go.Proofs.Ytlgkjidginibdaa
