/-
  No cell of these rows narrows 'for every input' (looked for: loops, veiled, ifaces, maps, wideKeys, modest, calm, conditions, laid).
  DERIVED. THE GIVEN ROWS OF THIS SEAT. 12 by the template 'for every input the law returns true; each argument reads behind the call as it read before'; 0 by the template 'total and deterministic' (their statements: YtgaankdmppoghaaTotals.lean).
  GIVEN WITH THE SEED: the statements are not yours to turn. If you find one false, say at which input.
  Laid BY PROGRAM, IN A SANDBOX (cutbox-rows.mjs): the forced cells as the released guide's own fill.sh prints them over the translation e24897b23ee47ebe… (all of the seat's roots in one cut). By AI agents, Wed Nov 11 2026. No macro, syntax, notation, axiom, sorry.
-/
import Derived.Test.YtgaankdmppoghaaChecked
import GoSem.Claim
import GoSem.ClaimJoined
import GoSem.ClaimMapViews
import Derived.JoinedTies
import Derived.KernelRfl
namespace Go.Proofs.Ytgaankdmppoghaa
/- THE CELL 'sum', in the pinned program and in every row, IS THE sha256 OF THE DUMP (.gsa) THAT YtgaankdmppoghaaProg.lean LOADS. Nothing in Lean hashes anything: it is a label: what it is worth is what the hold of that sum in a sandbox is worth. -/
noncomputable def Try.pinned : Pinned := { name := "ytgaankdmppoghaa", sum := "e24897b23ee47ebe482108cd2fc68f85c323aaca4bb2d8e76ed4475168e475f1", checked := Try.checked }
namespace Rows
def none {H : Type} : Left H := { results := [], args := [] }

/-- 'laws.FnExactSpanLoss': WHATEVER THE INPUT: true; the input reads as it did. -/
def fnExactSpanLossSpec : ChangeSpec := { name := "fnExactSpanLoss", fn := fun _ => fun
  | [d] => { results := [.lit (.bool true)], args := [d] }
  | _ => none }
def fnExactSpanLossRow : OpenClaim := { program := "ytgaankdmppoghaa", sum := "e24897b23ee47ebe482108cd2fc68f85c323aaca4bb2d8e76ed4475168e475f1", func := "loop.example/g00897/laws.FnExactSpanLoss", spec := "fnExactSpanLoss", apart := false }
def FnExactSpanLossSaid : Prop := fnExactSpanLossRow.holds Try.pinned (OpenSpec.ofChange fnExactSpanLossSpec)

/-- ITS FALSE NEIGHBOUR: 'it returns false'. Refute it at one input. -/
def fnExactSpanLossWrong : ChangeSpec := { name := "fnExactSpanLoss", fn := fun _ => fun
  | [d] => { results := [.lit (.bool false)], args := [d] }
  | _ => none }
def FnExactSpanLossWrongFalsely : Prop := fnExactSpanLossRow.holds Try.pinned (OpenSpec.ofChange fnExactSpanLossWrong)

/-- 'laws.FnExactMostSpans': WHATEVER THE INPUT: true; the input reads as it did. -/
def fnExactMostSpansSpec : ChangeSpec := { name := "fnExactMostSpans", fn := fun _ => fun
  | [d1, d2, d3] => { results := [.lit (.bool true)], args := [d1, d2, d3] }
  | _ => none }
def fnExactMostSpansRow : OpenClaim := { program := "ytgaankdmppoghaa", sum := "e24897b23ee47ebe482108cd2fc68f85c323aaca4bb2d8e76ed4475168e475f1", func := "loop.example/g00897/laws.FnExactMostSpans", spec := "fnExactMostSpans", apart := false }
def FnExactMostSpansSaid : Prop := fnExactMostSpansRow.holds Try.pinned (OpenSpec.ofChange fnExactMostSpansSpec)

/-- ITS FALSE NEIGHBOUR: 'it returns false'. Refute it at one input. -/
def fnExactMostSpansWrong : ChangeSpec := { name := "fnExactMostSpans", fn := fun _ => fun
  | [d1, d2, d3] => { results := [.lit (.bool false)], args := [d1, d2, d3] }
  | _ => none }
def FnExactMostSpansWrongFalsely : Prop := fnExactMostSpansRow.holds Try.pinned (OpenSpec.ofChange fnExactMostSpansWrong)

/-- 'laws.FnExactPowerProfile': WHATEVER THE INPUT: true; the input reads as it did. -/
def fnExactPowerProfileSpec : ChangeSpec := { name := "fnExactPowerProfile", fn := fun _ => fun
  | [d1, d2, d3] => { results := [.lit (.bool true)], args := [d1, d2, d3] }
  | _ => none }
def fnExactPowerProfileRow : OpenClaim := { program := "ytgaankdmppoghaa", sum := "e24897b23ee47ebe482108cd2fc68f85c323aaca4bb2d8e76ed4475168e475f1", func := "loop.example/g00897/laws.FnExactPowerProfile", spec := "fnExactPowerProfile", apart := false }
def FnExactPowerProfileSaid : Prop := fnExactPowerProfileRow.holds Try.pinned (OpenSpec.ofChange fnExactPowerProfileSpec)

/-- ITS FALSE NEIGHBOUR: 'it returns false'. Refute it at one input. -/
def fnExactPowerProfileWrong : ChangeSpec := { name := "fnExactPowerProfile", fn := fun _ => fun
  | [d1, d2, d3] => { results := [.lit (.bool false)], args := [d1, d2, d3] }
  | _ => none }
def FnExactPowerProfileWrongFalsely : Prop := fnExactPowerProfileRow.holds Try.pinned (OpenSpec.ofChange fnExactPowerProfileWrong)

/-- 'laws.FnExactWorstLevel': WHATEVER THE INPUT: true; the input reads as it did. -/
def fnExactWorstLevelSpec : ChangeSpec := { name := "fnExactWorstLevel", fn := fun _ => fun
  | [d1, d2, d3] => { results := [.lit (.bool true)], args := [d1, d2, d3] }
  | _ => none }
def fnExactWorstLevelRow : OpenClaim := { program := "ytgaankdmppoghaa", sum := "e24897b23ee47ebe482108cd2fc68f85c323aaca4bb2d8e76ed4475168e475f1", func := "loop.example/g00897/laws.FnExactWorstLevel", spec := "fnExactWorstLevel", apart := false }
def FnExactWorstLevelSaid : Prop := fnExactWorstLevelRow.holds Try.pinned (OpenSpec.ofChange fnExactWorstLevelSpec)

/-- ITS FALSE NEIGHBOUR: 'it returns false'. Refute it at one input. -/
def fnExactWorstLevelWrong : ChangeSpec := { name := "fnExactWorstLevel", fn := fun _ => fun
  | [d1, d2, d3] => { results := [.lit (.bool false)], args := [d1, d2, d3] }
  | _ => none }
def FnExactWorstLevelWrongFalsely : Prop := fnExactWorstLevelRow.holds Try.pinned (OpenSpec.ofChange fnExactWorstLevelWrong)

/-- 'laws.FnExactPowerMargin': WHATEVER THE INPUT: true; the input reads as it did. -/
def fnExactPowerMarginSpec : ChangeSpec := { name := "fnExactPowerMargin", fn := fun _ => fun
  | [d1, d2, d3, d4] => { results := [.lit (.bool true)], args := [d1, d2, d3, d4] }
  | _ => none }
def fnExactPowerMarginRow : OpenClaim := { program := "ytgaankdmppoghaa", sum := "e24897b23ee47ebe482108cd2fc68f85c323aaca4bb2d8e76ed4475168e475f1", func := "loop.example/g00897/laws.FnExactPowerMargin", spec := "fnExactPowerMargin", apart := false }
def FnExactPowerMarginSaid : Prop := fnExactPowerMarginRow.holds Try.pinned (OpenSpec.ofChange fnExactPowerMarginSpec)

/-- ITS FALSE NEIGHBOUR: 'it returns false'. Refute it at one input. -/
def fnExactPowerMarginWrong : ChangeSpec := { name := "fnExactPowerMargin", fn := fun _ => fun
  | [d1, d2, d3, d4] => { results := [.lit (.bool false)], args := [d1, d2, d3, d4] }
  | _ => none }
def FnExactPowerMarginWrongFalsely : Prop := fnExactPowerMarginRow.holds Try.pinned (OpenSpec.ofChange fnExactPowerMarginWrong)

/-- 'laws.FnExactPlaceAmplifiers': WHATEVER THE INPUT: true; the input reads as it did. -/
def fnExactPlaceAmplifiersSpec : ChangeSpec := { name := "fnExactPlaceAmplifiers", fn := fun _ => fun
  | [d1, d2, d3, d4] => { results := [.lit (.bool true)], args := [d1, d2, d3, d4] }
  | _ => none }
def fnExactPlaceAmplifiersRow : OpenClaim := { program := "ytgaankdmppoghaa", sum := "e24897b23ee47ebe482108cd2fc68f85c323aaca4bb2d8e76ed4475168e475f1", func := "loop.example/g00897/laws.FnExactPlaceAmplifiers", spec := "fnExactPlaceAmplifiers", apart := false }
def FnExactPlaceAmplifiersSaid : Prop := fnExactPlaceAmplifiersRow.holds Try.pinned (OpenSpec.ofChange fnExactPlaceAmplifiersSpec)

/-- ITS FALSE NEIGHBOUR: 'it returns false'. Refute it at one input. -/
def fnExactPlaceAmplifiersWrong : ChangeSpec := { name := "fnExactPlaceAmplifiers", fn := fun _ => fun
  | [d1, d2, d3, d4] => { results := [.lit (.bool false)], args := [d1, d2, d3, d4] }
  | _ => none }
def FnExactPlaceAmplifiersWrongFalsely : Prop := fnExactPlaceAmplifiersRow.holds Try.pinned (OpenSpec.ofChange fnExactPlaceAmplifiersWrong)

/-- 'laws.FnExactMultiplySymbols': WHATEVER THE INPUT: true; the input reads as it did. -/
def fnExactMultiplySymbolsSpec : ChangeSpec := { name := "fnExactMultiplySymbols", fn := fun _ => fun
  | [d1, d2] => { results := [.lit (.bool true)], args := [d1, d2] }
  | _ => none }
def fnExactMultiplySymbolsRow : OpenClaim := { program := "ytgaankdmppoghaa", sum := "e24897b23ee47ebe482108cd2fc68f85c323aaca4bb2d8e76ed4475168e475f1", func := "loop.example/g00897/laws.FnExactMultiplySymbols", spec := "fnExactMultiplySymbols", apart := false }
def FnExactMultiplySymbolsSaid : Prop := fnExactMultiplySymbolsRow.holds Try.pinned (OpenSpec.ofChange fnExactMultiplySymbolsSpec)

/-- ITS FALSE NEIGHBOUR: 'it returns false'. Refute it at one input. -/
def fnExactMultiplySymbolsWrong : ChangeSpec := { name := "fnExactMultiplySymbols", fn := fun _ => fun
  | [d1, d2] => { results := [.lit (.bool false)], args := [d1, d2] }
  | _ => none }
def FnExactMultiplySymbolsWrongFalsely : Prop := fnExactMultiplySymbolsRow.holds Try.pinned (OpenSpec.ofChange fnExactMultiplySymbolsWrong)

/-- 'laws.FnExactInverseSymbol': WHATEVER THE INPUT: true; the input reads as it did. -/
def fnExactInverseSymbolSpec : ChangeSpec := { name := "fnExactInverseSymbol", fn := fun _ => fun
  | [d] => { results := [.lit (.bool true)], args := [d] }
  | _ => none }
def fnExactInverseSymbolRow : OpenClaim := { program := "ytgaankdmppoghaa", sum := "e24897b23ee47ebe482108cd2fc68f85c323aaca4bb2d8e76ed4475168e475f1", func := "loop.example/g00897/laws.FnExactInverseSymbol", spec := "fnExactInverseSymbol", apart := false }
def FnExactInverseSymbolSaid : Prop := fnExactInverseSymbolRow.holds Try.pinned (OpenSpec.ofChange fnExactInverseSymbolSpec)

/-- ITS FALSE NEIGHBOUR: 'it returns false'. Refute it at one input. -/
def fnExactInverseSymbolWrong : ChangeSpec := { name := "fnExactInverseSymbol", fn := fun _ => fun
  | [d] => { results := [.lit (.bool false)], args := [d] }
  | _ => none }
def FnExactInverseSymbolWrongFalsely : Prop := fnExactInverseSymbolRow.holds Try.pinned (OpenSpec.ofChange fnExactInverseSymbolWrong)

/-- 'laws.FnExactMovePointer': WHATEVER THE INPUT: true; the input reads as it did. -/
def fnExactMovePointerSpec : ChangeSpec := { name := "fnExactMovePointer", fn := fun _ => fun
  | [d1, d2] => { results := [.lit (.bool true)], args := [d1, d2] }
  | _ => none }
def fnExactMovePointerRow : OpenClaim := { program := "ytgaankdmppoghaa", sum := "e24897b23ee47ebe482108cd2fc68f85c323aaca4bb2d8e76ed4475168e475f1", func := "loop.example/g00897/laws.FnExactMovePointer", spec := "fnExactMovePointer", apart := false }
def FnExactMovePointerSaid : Prop := fnExactMovePointerRow.holds Try.pinned (OpenSpec.ofChange fnExactMovePointerSpec)

/-- ITS FALSE NEIGHBOUR: 'it returns false'. Refute it at one input. -/
def fnExactMovePointerWrong : ChangeSpec := { name := "fnExactMovePointer", fn := fun _ => fun
  | [d1, d2] => { results := [.lit (.bool false)], args := [d1, d2] }
  | _ => none }
def FnExactMovePointerWrongFalsely : Prop := fnExactMovePointerRow.holds Try.pinned (OpenSpec.ofChange fnExactMovePointerWrong)

/-- 'laws.FnExactInterleaveSymbols': WHATEVER THE INPUT: true; the input reads as it did. -/
def fnExactInterleaveSymbolsSpec : ChangeSpec := { name := "fnExactInterleaveSymbols", fn := fun _ => fun
  | [d1, d2] => { results := [.lit (.bool true)], args := [d1, d2] }
  | _ => none }
def fnExactInterleaveSymbolsRow : OpenClaim := { program := "ytgaankdmppoghaa", sum := "e24897b23ee47ebe482108cd2fc68f85c323aaca4bb2d8e76ed4475168e475f1", func := "loop.example/g00897/laws.FnExactInterleaveSymbols", spec := "fnExactInterleaveSymbols", apart := false }
def FnExactInterleaveSymbolsSaid : Prop := fnExactInterleaveSymbolsRow.holds Try.pinned (OpenSpec.ofChange fnExactInterleaveSymbolsSpec)

/-- ITS FALSE NEIGHBOUR: 'it returns false'. Refute it at one input. -/
def fnExactInterleaveSymbolsWrong : ChangeSpec := { name := "fnExactInterleaveSymbols", fn := fun _ => fun
  | [d1, d2] => { results := [.lit (.bool false)], args := [d1, d2] }
  | _ => none }
def FnExactInterleaveSymbolsWrongFalsely : Prop := fnExactInterleaveSymbolsRow.holds Try.pinned (OpenSpec.ofChange fnExactInterleaveSymbolsWrong)

/-- 'laws.FnExactDeinterleaveSymbols': WHATEVER THE INPUT: true; the input reads as it did. -/
def fnExactDeinterleaveSymbolsSpec : ChangeSpec := { name := "fnExactDeinterleaveSymbols", fn := fun _ => fun
  | [d1, d2] => { results := [.lit (.bool true)], args := [d1, d2] }
  | _ => none }
def fnExactDeinterleaveSymbolsRow : OpenClaim := { program := "ytgaankdmppoghaa", sum := "e24897b23ee47ebe482108cd2fc68f85c323aaca4bb2d8e76ed4475168e475f1", func := "loop.example/g00897/laws.FnExactDeinterleaveSymbols", spec := "fnExactDeinterleaveSymbols", apart := false }
def FnExactDeinterleaveSymbolsSaid : Prop := fnExactDeinterleaveSymbolsRow.holds Try.pinned (OpenSpec.ofChange fnExactDeinterleaveSymbolsSpec)

/-- ITS FALSE NEIGHBOUR: 'it returns false'. Refute it at one input. -/
def fnExactDeinterleaveSymbolsWrong : ChangeSpec := { name := "fnExactDeinterleaveSymbols", fn := fun _ => fun
  | [d1, d2] => { results := [.lit (.bool false)], args := [d1, d2] }
  | _ => none }
def FnExactDeinterleaveSymbolsWrongFalsely : Prop := fnExactDeinterleaveSymbolsRow.holds Try.pinned (OpenSpec.ofChange fnExactDeinterleaveSymbolsWrong)

/-- 'laws.FnExactJustifyBuffer': WHATEVER THE INPUT: true; the input reads as it did. -/
def fnExactJustifyBufferSpec : ChangeSpec := { name := "fnExactJustifyBuffer", fn := fun _ => fun
  | [d1, d2, d3, d4, d5] => { results := [.lit (.bool true)], args := [d1, d2, d3, d4, d5] }
  | _ => none }
def fnExactJustifyBufferRow : OpenClaim := { program := "ytgaankdmppoghaa", sum := "e24897b23ee47ebe482108cd2fc68f85c323aaca4bb2d8e76ed4475168e475f1", func := "loop.example/g00897/laws.FnExactJustifyBuffer", spec := "fnExactJustifyBuffer", apart := false }
def FnExactJustifyBufferSaid : Prop := fnExactJustifyBufferRow.holds Try.pinned (OpenSpec.ofChange fnExactJustifyBufferSpec)

/-- ITS FALSE NEIGHBOUR: 'it returns false'. Refute it at one input. -/
def fnExactJustifyBufferWrong : ChangeSpec := { name := "fnExactJustifyBuffer", fn := fun _ => fun
  | [d1, d2, d3, d4, d5] => { results := [.lit (.bool false)], args := [d1, d2, d3, d4, d5] }
  | _ => none }
def FnExactJustifyBufferWrongFalsely : Prop := fnExactJustifyBufferRow.holds Try.pinned (OpenSpec.ofChange fnExactJustifyBufferWrong)

/- THE SECOND FORM. 'bulk': how many values and letters a reading holds, each counted each time it is reached (what is shared counts as often as it is met; a slice's spare places count too). A statement '..UptoSaid' is the law's where the arguments, and the package variables that the reading takes, are together of bulk at most 1048576: NARROWER than '..Said'. Prove '..Said' where nothing that the law and all that it calls make is longer than what came in: it says more and counts as full. Else prove '..UptoSaid'. A law counts once. -/
mutual
def uptoBulk {H : Type} : DataW H → Nat
  | .lit (.string bytes) => bytes.length + 1
  | .lit _ => 1
  | .nil => 1
  | .ptr d => uptoBulk d + 1
  | .slice elems spare => uptoBulkAll elems + uptoBulkAll spare + 1
  | .agg parts => uptoBulkAll parts + 1
  | .iface _ d => uptoBulk d + 1
  | .map entries => uptoBulkEntries entries + 1
  | .held _ => 1
def uptoBulkAll {H : Type} : List (DataW H) → Nat
  | [] => 0
  | d :: r => uptoBulk d + uptoBulkAll r
def uptoBulkEntries {H : Type} : List (Lit × DataW H) → Nat
  | [] => 0
  | x :: r => uptoBulkEntry x + uptoBulkEntries r
def uptoBulkEntry {H : Type} : Lit × DataW H → Nat
  | (.string bytes, d) => bytes.length + uptoBulk d + 1
  | (_, d) => uptoBulk d + 1
 end
def uptoSmall : (H : Type) → List (DataW H) → Bool := fun _ ds => decide (uptoBulkAll ds ≤ 1048576)
def OpenSpec.upto (s : _root_.Go.ChangeSpec) : _root_.Go.OpenSpec := { _root_.Go.OpenSpec.ofChange s with cond := some uptoSmall }

/-- 'laws.FnExactSpanLoss', WHERE WHAT IT READS IS OF BULK AT MOST 1048576: true; the input reads as it did. -/
def fnExactSpanLossUptoRow : OpenClaim := { program := "ytgaankdmppoghaa", sum := "e24897b23ee47ebe482108cd2fc68f85c323aaca4bb2d8e76ed4475168e475f1", func := "loop.example/g00897/laws.FnExactSpanLoss", spec := "fnExactSpanLoss", apart := false, narrowed := true }
def FnExactSpanLossUptoSaid : Prop := fnExactSpanLossUptoRow.holds Try.pinned (OpenSpec.upto fnExactSpanLossSpec)

/-- 'laws.FnExactMostSpans', WHERE WHAT IT READS IS OF BULK AT MOST 1048576: true; the input reads as it did. -/
def fnExactMostSpansUptoRow : OpenClaim := { program := "ytgaankdmppoghaa", sum := "e24897b23ee47ebe482108cd2fc68f85c323aaca4bb2d8e76ed4475168e475f1", func := "loop.example/g00897/laws.FnExactMostSpans", spec := "fnExactMostSpans", apart := false, narrowed := true }
def FnExactMostSpansUptoSaid : Prop := fnExactMostSpansUptoRow.holds Try.pinned (OpenSpec.upto fnExactMostSpansSpec)

/-- 'laws.FnExactPowerProfile', WHERE WHAT IT READS IS OF BULK AT MOST 1048576: true; the input reads as it did. -/
def fnExactPowerProfileUptoRow : OpenClaim := { program := "ytgaankdmppoghaa", sum := "e24897b23ee47ebe482108cd2fc68f85c323aaca4bb2d8e76ed4475168e475f1", func := "loop.example/g00897/laws.FnExactPowerProfile", spec := "fnExactPowerProfile", apart := false, narrowed := true }
def FnExactPowerProfileUptoSaid : Prop := fnExactPowerProfileUptoRow.holds Try.pinned (OpenSpec.upto fnExactPowerProfileSpec)

/-- 'laws.FnExactWorstLevel', WHERE WHAT IT READS IS OF BULK AT MOST 1048576: true; the input reads as it did. -/
def fnExactWorstLevelUptoRow : OpenClaim := { program := "ytgaankdmppoghaa", sum := "e24897b23ee47ebe482108cd2fc68f85c323aaca4bb2d8e76ed4475168e475f1", func := "loop.example/g00897/laws.FnExactWorstLevel", spec := "fnExactWorstLevel", apart := false, narrowed := true }
def FnExactWorstLevelUptoSaid : Prop := fnExactWorstLevelUptoRow.holds Try.pinned (OpenSpec.upto fnExactWorstLevelSpec)

/-- 'laws.FnExactPowerMargin', WHERE WHAT IT READS IS OF BULK AT MOST 1048576: true; the input reads as it did. -/
def fnExactPowerMarginUptoRow : OpenClaim := { program := "ytgaankdmppoghaa", sum := "e24897b23ee47ebe482108cd2fc68f85c323aaca4bb2d8e76ed4475168e475f1", func := "loop.example/g00897/laws.FnExactPowerMargin", spec := "fnExactPowerMargin", apart := false, narrowed := true }
def FnExactPowerMarginUptoSaid : Prop := fnExactPowerMarginUptoRow.holds Try.pinned (OpenSpec.upto fnExactPowerMarginSpec)

/-- 'laws.FnExactPlaceAmplifiers', WHERE WHAT IT READS IS OF BULK AT MOST 1048576: true; the input reads as it did. -/
def fnExactPlaceAmplifiersUptoRow : OpenClaim := { program := "ytgaankdmppoghaa", sum := "e24897b23ee47ebe482108cd2fc68f85c323aaca4bb2d8e76ed4475168e475f1", func := "loop.example/g00897/laws.FnExactPlaceAmplifiers", spec := "fnExactPlaceAmplifiers", apart := false, narrowed := true }
def FnExactPlaceAmplifiersUptoSaid : Prop := fnExactPlaceAmplifiersUptoRow.holds Try.pinned (OpenSpec.upto fnExactPlaceAmplifiersSpec)

/-- 'laws.FnExactMultiplySymbols', WHERE WHAT IT READS IS OF BULK AT MOST 1048576: true; the input reads as it did. -/
def fnExactMultiplySymbolsUptoRow : OpenClaim := { program := "ytgaankdmppoghaa", sum := "e24897b23ee47ebe482108cd2fc68f85c323aaca4bb2d8e76ed4475168e475f1", func := "loop.example/g00897/laws.FnExactMultiplySymbols", spec := "fnExactMultiplySymbols", apart := false, narrowed := true }
def FnExactMultiplySymbolsUptoSaid : Prop := fnExactMultiplySymbolsUptoRow.holds Try.pinned (OpenSpec.upto fnExactMultiplySymbolsSpec)

/-- 'laws.FnExactInverseSymbol', WHERE WHAT IT READS IS OF BULK AT MOST 1048576: true; the input reads as it did. -/
def fnExactInverseSymbolUptoRow : OpenClaim := { program := "ytgaankdmppoghaa", sum := "e24897b23ee47ebe482108cd2fc68f85c323aaca4bb2d8e76ed4475168e475f1", func := "loop.example/g00897/laws.FnExactInverseSymbol", spec := "fnExactInverseSymbol", apart := false, narrowed := true }
def FnExactInverseSymbolUptoSaid : Prop := fnExactInverseSymbolUptoRow.holds Try.pinned (OpenSpec.upto fnExactInverseSymbolSpec)

/-- 'laws.FnExactMovePointer', WHERE WHAT IT READS IS OF BULK AT MOST 1048576: true; the input reads as it did. -/
def fnExactMovePointerUptoRow : OpenClaim := { program := "ytgaankdmppoghaa", sum := "e24897b23ee47ebe482108cd2fc68f85c323aaca4bb2d8e76ed4475168e475f1", func := "loop.example/g00897/laws.FnExactMovePointer", spec := "fnExactMovePointer", apart := false, narrowed := true }
def FnExactMovePointerUptoSaid : Prop := fnExactMovePointerUptoRow.holds Try.pinned (OpenSpec.upto fnExactMovePointerSpec)

/-- 'laws.FnExactInterleaveSymbols', WHERE WHAT IT READS IS OF BULK AT MOST 1048576: true; the input reads as it did. -/
def fnExactInterleaveSymbolsUptoRow : OpenClaim := { program := "ytgaankdmppoghaa", sum := "e24897b23ee47ebe482108cd2fc68f85c323aaca4bb2d8e76ed4475168e475f1", func := "loop.example/g00897/laws.FnExactInterleaveSymbols", spec := "fnExactInterleaveSymbols", apart := false, narrowed := true }
def FnExactInterleaveSymbolsUptoSaid : Prop := fnExactInterleaveSymbolsUptoRow.holds Try.pinned (OpenSpec.upto fnExactInterleaveSymbolsSpec)

/-- 'laws.FnExactDeinterleaveSymbols', WHERE WHAT IT READS IS OF BULK AT MOST 1048576: true; the input reads as it did. -/
def fnExactDeinterleaveSymbolsUptoRow : OpenClaim := { program := "ytgaankdmppoghaa", sum := "e24897b23ee47ebe482108cd2fc68f85c323aaca4bb2d8e76ed4475168e475f1", func := "loop.example/g00897/laws.FnExactDeinterleaveSymbols", spec := "fnExactDeinterleaveSymbols", apart := false, narrowed := true }
def FnExactDeinterleaveSymbolsUptoSaid : Prop := fnExactDeinterleaveSymbolsUptoRow.holds Try.pinned (OpenSpec.upto fnExactDeinterleaveSymbolsSpec)

/-- 'laws.FnExactJustifyBuffer', WHERE WHAT IT READS IS OF BULK AT MOST 1048576: true; the input reads as it did. -/
def fnExactJustifyBufferUptoRow : OpenClaim := { program := "ytgaankdmppoghaa", sum := "e24897b23ee47ebe482108cd2fc68f85c323aaca4bb2d8e76ed4475168e475f1", func := "loop.example/g00897/laws.FnExactJustifyBuffer", spec := "fnExactJustifyBuffer", apart := false, narrowed := true }
def FnExactJustifyBufferUptoSaid : Prop := fnExactJustifyBufferUptoRow.holds Try.pinned (OpenSpec.upto fnExactJustifyBufferSpec)

end Rows
end Go.Proofs.Ytgaankdmppoghaa
