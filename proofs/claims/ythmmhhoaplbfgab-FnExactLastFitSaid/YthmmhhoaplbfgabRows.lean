/-
  No cell of these rows narrows 'for every input' (looked for: loops, veiled, ifaces, maps, wideKeys, modest, calm, conditions, laid).
  DERIVED. THE GIVEN ROWS OF THIS SEAT. 5 by the template 'for every input the law returns true; each argument reads behind the call as it read before'; 0 by the template 'total and deterministic' (their statements: YthmmhhoaplbfgabTotals.lean).
  GIVEN WITH THE SEED: the statements are not yours to turn. If you find one false, say at which input.
  Laid BY PROGRAM, IN A SANDBOX (cutbox-rows.mjs): the forced cells as the released guide's own fill.sh prints them over the translation 9791b137f335d076… (all of the seat's roots in one cut). By AI agents, Wed Nov 11 2026. No macro, syntax, notation, axiom, sorry.
-/
import Derived.Test.YthmmhhoaplbfgabChecked
import GoSem.Claim
import GoSem.ClaimJoined
import GoSem.ClaimMapViews
import Derived.JoinedTies
import Derived.KernelRfl
namespace Go.Proofs.Ythmmhhoaplbfgab
/- THE CELL 'sum', in the pinned program and in every row, IS THE sha256 OF THE DUMP (.gsa) THAT YthmmhhoaplbfgabProg.lean LOADS. Nothing in Lean hashes anything: it is a label: what it is worth is what the hold of that sum in a sandbox is worth. -/
noncomputable def Try.pinned : Pinned := { name := "ythmmhhoaplbfgab", sum := "9791b137f335d0761529684206a186f7635a37af04056e8deb309fd1966f7e44", checked := Try.checked }
namespace Rows
def none {H : Type} : Left H := { results := [], args := [] }

/-- 'laws.FnExactTotalLength': WHATEVER THE INPUT: true; the input reads as it did. -/
def fnExactTotalLengthSpec : ChangeSpec := { name := "fnExactTotalLength", fn := fun _ => fun
  | [d] => { results := [.lit (.bool true)], args := [d] }
  | _ => none }
def fnExactTotalLengthRow : OpenClaim := { program := "ythmmhhoaplbfgab", sum := "9791b137f335d0761529684206a186f7635a37af04056e8deb309fd1966f7e44", func := "loop.example/g00897/laws.FnExactTotalLength", spec := "fnExactTotalLength", apart := false }
def FnExactTotalLengthSaid : Prop := fnExactTotalLengthRow.holds Try.pinned (OpenSpec.ofChange fnExactTotalLengthSpec)

/-- ITS FALSE NEIGHBOUR: 'it returns false'. Refute it at one input. -/
def fnExactTotalLengthWrong : ChangeSpec := { name := "fnExactTotalLength", fn := fun _ => fun
  | [d] => { results := [.lit (.bool false)], args := [d] }
  | _ => none }
def FnExactTotalLengthWrongFalsely : Prop := fnExactTotalLengthRow.holds Try.pinned (OpenSpec.ofChange fnExactTotalLengthWrong)

/-- 'laws.FnExactIsValidBlock': WHATEVER THE INPUT: true; the input reads as it did. -/
def fnExactIsValidBlockSpec : ChangeSpec := { name := "fnExactIsValidBlock", fn := fun _ => fun
  | [d] => { results := [.lit (.bool true)], args := [d] }
  | _ => none }
def fnExactIsValidBlockRow : OpenClaim := { program := "ythmmhhoaplbfgab", sum := "9791b137f335d0761529684206a186f7635a37af04056e8deb309fd1966f7e44", func := "loop.example/g00897/laws.FnExactIsValidBlock", spec := "fnExactIsValidBlock", apart := false }
def FnExactIsValidBlockSaid : Prop := fnExactIsValidBlockRow.holds Try.pinned (OpenSpec.ofChange fnExactIsValidBlockSpec)

/-- ITS FALSE NEIGHBOUR: 'it returns false'. Refute it at one input. -/
def fnExactIsValidBlockWrong : ChangeSpec := { name := "fnExactIsValidBlock", fn := fun _ => fun
  | [d] => { results := [.lit (.bool false)], args := [d] }
  | _ => none }
def FnExactIsValidBlockWrongFalsely : Prop := fnExactIsValidBlockRow.holds Try.pinned (OpenSpec.ofChange fnExactIsValidBlockWrong)

/-- 'laws.FnExactBlockMask': WHATEVER THE INPUT: true; the input reads as it did. -/
def fnExactBlockMaskSpec : ChangeSpec := { name := "fnExactBlockMask", fn := fun _ => fun
  | [d] => { results := [.lit (.bool true)], args := [d] }
  | _ => none }
def fnExactBlockMaskRow : OpenClaim := { program := "ythmmhhoaplbfgab", sum := "9791b137f335d0761529684206a186f7635a37af04056e8deb309fd1966f7e44", func := "loop.example/g00897/laws.FnExactBlockMask", spec := "fnExactBlockMask", apart := false }
def FnExactBlockMaskSaid : Prop := fnExactBlockMaskRow.holds Try.pinned (OpenSpec.ofChange fnExactBlockMaskSpec)

/-- ITS FALSE NEIGHBOUR: 'it returns false'. Refute it at one input. -/
def fnExactBlockMaskWrong : ChangeSpec := { name := "fnExactBlockMask", fn := fun _ => fun
  | [d] => { results := [.lit (.bool false)], args := [d] }
  | _ => none }
def FnExactBlockMaskWrongFalsely : Prop := fnExactBlockMaskRow.holds Try.pinned (OpenSpec.ofChange fnExactBlockMaskWrong)

/-- 'laws.FnExactLastFit': WHATEVER THE INPUT: true; the input reads as it did. -/
def fnExactLastFitSpec : ChangeSpec := { name := "fnExactLastFit", fn := fun _ => fun
  | [d1, d2] => { results := [.lit (.bool true)], args := [d1, d2] }
  | _ => none }
def fnExactLastFitRow : OpenClaim := { program := "ythmmhhoaplbfgab", sum := "9791b137f335d0761529684206a186f7635a37af04056e8deb309fd1966f7e44", func := "loop.example/g00897/laws.FnExactLastFit", spec := "fnExactLastFit", apart := false }
def FnExactLastFitSaid : Prop := fnExactLastFitRow.holds Try.pinned (OpenSpec.ofChange fnExactLastFitSpec)

/-- ITS FALSE NEIGHBOUR: 'it returns false'. Refute it at one input. -/
def fnExactLastFitWrong : ChangeSpec := { name := "fnExactLastFit", fn := fun _ => fun
  | [d1, d2] => { results := [.lit (.bool false)], args := [d1, d2] }
  | _ => none }
def FnExactLastFitWrongFalsely : Prop := fnExactLastFitRow.holds Try.pinned (OpenSpec.ofChange fnExactLastFitWrong)

/-- 'laws.FnExactUnionMasks': WHATEVER THE INPUT: true; the input reads as it did. -/
def fnExactUnionMasksSpec : ChangeSpec := { name := "fnExactUnionMasks", fn := fun _ => fun
  | [d] => { results := [.lit (.bool true)], args := [d] }
  | _ => none }
def fnExactUnionMasksRow : OpenClaim := { program := "ythmmhhoaplbfgab", sum := "9791b137f335d0761529684206a186f7635a37af04056e8deb309fd1966f7e44", func := "loop.example/g00897/laws.FnExactUnionMasks", spec := "fnExactUnionMasks", apart := false }
def FnExactUnionMasksSaid : Prop := fnExactUnionMasksRow.holds Try.pinned (OpenSpec.ofChange fnExactUnionMasksSpec)

/-- ITS FALSE NEIGHBOUR: 'it returns false'. Refute it at one input. -/
def fnExactUnionMasksWrong : ChangeSpec := { name := "fnExactUnionMasks", fn := fun _ => fun
  | [d] => { results := [.lit (.bool false)], args := [d] }
  | _ => none }
def FnExactUnionMasksWrongFalsely : Prop := fnExactUnionMasksRow.holds Try.pinned (OpenSpec.ofChange fnExactUnionMasksWrong)

/- THE SECOND FORM. 'bulk': how many values and letters a reading holds, each counted each time it is reached (what is shared counts as often as it is met; a slice's spare places count too). A statement '..UptoSaid' is the law's where the arguments, and the package variables that the reading takes, are together of bulk at most 1048576: NARROWER than '..Said'. Prove '..Said' where nothing that the law and all that it calls make is longer than what came in: it says more and counts as full. Else prove '..UptoSaid'. A law counts once. -/
mutual
def uptoBulk {H : Type} : DataW H → Nat
  | .lit (.string bytes) => bytes.length + 1
  | .lit _ => 1
  | .nil => 1
  | .ptr d => uptoBulk d + 1
  | .slice elems spare => uptoBulkAll elems + uptoBulkAll spare + 1
  | .agg parts => uptoBulkAll parts + 1
  | .iface _ d => uptoBulk d + 1
  | .map entries => uptoBulkEntries entries + 1
  | .held _ => 1
def uptoBulkAll {H : Type} : List (DataW H) → Nat
  | [] => 0
  | d :: r => uptoBulk d + uptoBulkAll r
def uptoBulkEntries {H : Type} : List (Lit × DataW H) → Nat
  | [] => 0
  | x :: r => uptoBulkEntry x + uptoBulkEntries r
def uptoBulkEntry {H : Type} : Lit × DataW H → Nat
  | (.string bytes, d) => bytes.length + uptoBulk d + 1
  | (_, d) => uptoBulk d + 1
 end
def uptoSmall : (H : Type) → List (DataW H) → Bool := fun _ ds => decide (uptoBulkAll ds ≤ 1048576)
def OpenSpec.upto (s : _root_.Go.ChangeSpec) : _root_.Go.OpenSpec := { _root_.Go.OpenSpec.ofChange s with cond := some uptoSmall }

/-- 'laws.FnExactTotalLength', WHERE WHAT IT READS IS OF BULK AT MOST 1048576: true; the input reads as it did. -/
def fnExactTotalLengthUptoRow : OpenClaim := { program := "ythmmhhoaplbfgab", sum := "9791b137f335d0761529684206a186f7635a37af04056e8deb309fd1966f7e44", func := "loop.example/g00897/laws.FnExactTotalLength", spec := "fnExactTotalLength", apart := false, narrowed := true }
def FnExactTotalLengthUptoSaid : Prop := fnExactTotalLengthUptoRow.holds Try.pinned (OpenSpec.upto fnExactTotalLengthSpec)

/-- 'laws.FnExactIsValidBlock', WHERE WHAT IT READS IS OF BULK AT MOST 1048576: true; the input reads as it did. -/
def fnExactIsValidBlockUptoRow : OpenClaim := { program := "ythmmhhoaplbfgab", sum := "9791b137f335d0761529684206a186f7635a37af04056e8deb309fd1966f7e44", func := "loop.example/g00897/laws.FnExactIsValidBlock", spec := "fnExactIsValidBlock", apart := false, narrowed := true }
def FnExactIsValidBlockUptoSaid : Prop := fnExactIsValidBlockUptoRow.holds Try.pinned (OpenSpec.upto fnExactIsValidBlockSpec)

/-- 'laws.FnExactBlockMask', WHERE WHAT IT READS IS OF BULK AT MOST 1048576: true; the input reads as it did. -/
def fnExactBlockMaskUptoRow : OpenClaim := { program := "ythmmhhoaplbfgab", sum := "9791b137f335d0761529684206a186f7635a37af04056e8deb309fd1966f7e44", func := "loop.example/g00897/laws.FnExactBlockMask", spec := "fnExactBlockMask", apart := false, narrowed := true }
def FnExactBlockMaskUptoSaid : Prop := fnExactBlockMaskUptoRow.holds Try.pinned (OpenSpec.upto fnExactBlockMaskSpec)

/-- 'laws.FnExactLastFit', WHERE WHAT IT READS IS OF BULK AT MOST 1048576: true; the input reads as it did. -/
def fnExactLastFitUptoRow : OpenClaim := { program := "ythmmhhoaplbfgab", sum := "9791b137f335d0761529684206a186f7635a37af04056e8deb309fd1966f7e44", func := "loop.example/g00897/laws.FnExactLastFit", spec := "fnExactLastFit", apart := false, narrowed := true }
def FnExactLastFitUptoSaid : Prop := fnExactLastFitUptoRow.holds Try.pinned (OpenSpec.upto fnExactLastFitSpec)

/-- 'laws.FnExactUnionMasks', WHERE WHAT IT READS IS OF BULK AT MOST 1048576: true; the input reads as it did. -/
def fnExactUnionMasksUptoRow : OpenClaim := { program := "ythmmhhoaplbfgab", sum := "9791b137f335d0761529684206a186f7635a37af04056e8deb309fd1966f7e44", func := "loop.example/g00897/laws.FnExactUnionMasks", spec := "fnExactUnionMasks", apart := false, narrowed := true }
def FnExactUnionMasksUptoSaid : Prop := fnExactUnionMasksUptoRow.holds Try.pinned (OpenSpec.upto fnExactUnionMasksSpec)

end Rows
end Go.Proofs.Ythmmhhoaplbfgab
