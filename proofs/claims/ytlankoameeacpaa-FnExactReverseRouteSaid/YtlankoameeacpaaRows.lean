/-
  No cell of these rows narrows 'for every input' (looked for: loops, veiled, ifaces, maps, wideKeys, modest, calm, conditions, laid).
  DERIVED. THE GIVEN ROWS OF THIS SEAT. 6 by the template 'for every input the law returns true; each argument reads behind the call as it read before'; 0 by the template 'total and deterministic' (their statements: YtlankoameeacpaaTotals.lean).
  GIVEN WITH THE SEED: the statements are not yours to turn. If you find one false, say at which input.
  Laid BY PROGRAM, IN A SANDBOX (cutbox-rows.mjs): the forced cells as the released guide's own fill.sh prints them over the translation 72a10e9ba5af1c02… (all of the seat's roots in one cut). By AI agents, Wed Nov 11 2026. No macro, syntax, notation, axiom, sorry.
-/
import Derived.Test.YtlankoameeacpaaChecked
import GoSem.Claim
import GoSem.ClaimJoined
import GoSem.ClaimMapViews
import Derived.JoinedTies
import Derived.KernelRfl
namespace Go.Proofs.Ytlankoameeacpaa
/- THE CELL 'sum', in the pinned program and in every row, IS THE sha256 OF THE DUMP (.gsa) THAT YtlankoameeacpaaProg.lean LOADS. Nothing in Lean hashes anything: it is a label: what it is worth is what the hold of that sum in a sandbox is worth. -/
noncomputable def Try.pinned : Pinned := { name := "ytlankoameeacpaa", sum := "72a10e9ba5af1c02d0191b9ba1e5942b5476e7310f61b31898d0cd86d9c6adf2", checked := Try.checked }
namespace Rows
def none {H : Type} : Left H := { results := [], args := [] }

/-- 'laws.FnField': WHATEVER THE INPUT: true; the input reads as it did. -/
def fnFieldSpec : ChangeSpec := { name := "fnField", fn := fun _ => fun
  | [d] => { results := [.lit (.bool true)], args := [d] }
  | _ => none }
def fnFieldRow : OpenClaim := { program := "ytlankoameeacpaa", sum := "72a10e9ba5af1c02d0191b9ba1e5942b5476e7310f61b31898d0cd86d9c6adf2", func := "loop.example/g00897/laws.FnField", spec := "fnField", apart := false }
def FnFieldSaid : Prop := fnFieldRow.holds Try.pinned (OpenSpec.ofChange fnFieldSpec)

/-- ITS FALSE NEIGHBOUR: 'it returns false'. Refute it at one input. -/
def fnFieldWrong : ChangeSpec := { name := "fnField", fn := fun _ => fun
  | [d] => { results := [.lit (.bool false)], args := [d] }
  | _ => none }
def FnFieldWrongFalsely : Prop := fnFieldRow.holds Try.pinned (OpenSpec.ofChange fnFieldWrong)

/-- 'laws.FnExactTrafficBetween': WHATEVER THE INPUT: true; the input reads as it did. -/
def fnExactTrafficBetweenSpec : ChangeSpec := { name := "fnExactTrafficBetween", fn := fun _ => fun
  | [d1, d2] => { results := [.lit (.bool true)], args := [d1, d2] }
  | _ => none }
def fnExactTrafficBetweenRow : OpenClaim := { program := "ytlankoameeacpaa", sum := "72a10e9ba5af1c02d0191b9ba1e5942b5476e7310f61b31898d0cd86d9c6adf2", func := "loop.example/g00897/laws.FnExactTrafficBetween", spec := "fnExactTrafficBetween", apart := false }
def FnExactTrafficBetweenSaid : Prop := fnExactTrafficBetweenRow.holds Try.pinned (OpenSpec.ofChange fnExactTrafficBetweenSpec)

/-- ITS FALSE NEIGHBOUR: 'it returns false'. Refute it at one input. -/
def fnExactTrafficBetweenWrong : ChangeSpec := { name := "fnExactTrafficBetween", fn := fun _ => fun
  | [d1, d2] => { results := [.lit (.bool false)], args := [d1, d2] }
  | _ => none }
def FnExactTrafficBetweenWrongFalsely : Prop := fnExactTrafficBetweenRow.holds Try.pinned (OpenSpec.ofChange fnExactTrafficBetweenWrong)

/-- 'laws.FnExactCounterGaps': WHATEVER THE INPUT: true; the input reads as it did. -/
def fnExactCounterGapsSpec : ChangeSpec := { name := "fnExactCounterGaps", fn := fun _ => fun
  | [d] => { results := [.lit (.bool true)], args := [d] }
  | _ => none }
def fnExactCounterGapsRow : OpenClaim := { program := "ytlankoameeacpaa", sum := "72a10e9ba5af1c02d0191b9ba1e5942b5476e7310f61b31898d0cd86d9c6adf2", func := "loop.example/g00897/laws.FnExactCounterGaps", spec := "fnExactCounterGaps", apart := false }
def FnExactCounterGapsSaid : Prop := fnExactCounterGapsRow.holds Try.pinned (OpenSpec.ofChange fnExactCounterGapsSpec)

/-- ITS FALSE NEIGHBOUR: 'it returns false'. Refute it at one input. -/
def fnExactCounterGapsWrong : ChangeSpec := { name := "fnExactCounterGaps", fn := fun _ => fun
  | [d] => { results := [.lit (.bool false)], args := [d] }
  | _ => none }
def FnExactCounterGapsWrongFalsely : Prop := fnExactCounterGapsRow.holds Try.pinned (OpenSpec.ofChange fnExactCounterGapsWrong)

/-- 'laws.FnExactFibersBetween': WHATEVER THE INPUT: true; the input reads as it did. -/
def fnExactFibersBetweenSpec : ChangeSpec := { name := "fnExactFibersBetween", fn := fun _ => fun
  | [d1, d2] => { results := [.lit (.bool true)], args := [d1, d2] }
  | _ => none }
def fnExactFibersBetweenRow : OpenClaim := { program := "ytlankoameeacpaa", sum := "72a10e9ba5af1c02d0191b9ba1e5942b5476e7310f61b31898d0cd86d9c6adf2", func := "loop.example/g00897/laws.FnExactFibersBetween", spec := "fnExactFibersBetween", apart := false }
def FnExactFibersBetweenSaid : Prop := fnExactFibersBetweenRow.holds Try.pinned (OpenSpec.ofChange fnExactFibersBetweenSpec)

/-- ITS FALSE NEIGHBOUR: 'it returns false'. Refute it at one input. -/
def fnExactFibersBetweenWrong : ChangeSpec := { name := "fnExactFibersBetween", fn := fun _ => fun
  | [d1, d2] => { results := [.lit (.bool false)], args := [d1, d2] }
  | _ => none }
def FnExactFibersBetweenWrongFalsely : Prop := fnExactFibersBetweenRow.holds Try.pinned (OpenSpec.ofChange fnExactFibersBetweenWrong)

/-- 'laws.FnExactRiskDisjoint': WHATEVER THE INPUT: true; the input reads as it did. -/
def fnExactRiskDisjointSpec : ChangeSpec := { name := "fnExactRiskDisjoint", fn := fun _ => fun
  | [d1, d2, d3] => { results := [.lit (.bool true)], args := [d1, d2, d3] }
  | _ => none }
def fnExactRiskDisjointRow : OpenClaim := { program := "ytlankoameeacpaa", sum := "72a10e9ba5af1c02d0191b9ba1e5942b5476e7310f61b31898d0cd86d9c6adf2", func := "loop.example/g00897/laws.FnExactRiskDisjoint", spec := "fnExactRiskDisjoint", apart := false }
def FnExactRiskDisjointSaid : Prop := fnExactRiskDisjointRow.holds Try.pinned (OpenSpec.ofChange fnExactRiskDisjointSpec)

/-- ITS FALSE NEIGHBOUR: 'it returns false'. Refute it at one input. -/
def fnExactRiskDisjointWrong : ChangeSpec := { name := "fnExactRiskDisjoint", fn := fun _ => fun
  | [d1, d2, d3] => { results := [.lit (.bool false)], args := [d1, d2, d3] }
  | _ => none }
def FnExactRiskDisjointWrongFalsely : Prop := fnExactRiskDisjointRow.holds Try.pinned (OpenSpec.ofChange fnExactRiskDisjointWrong)

/-- 'laws.FnExactReverseRoute': WHATEVER THE INPUT: true; the input reads as it did. -/
def fnExactReverseRouteSpec : ChangeSpec := { name := "fnExactReverseRoute", fn := fun _ => fun
  | [d1, d2] => { results := [.lit (.bool true)], args := [d1, d2] }
  | _ => none }
def fnExactReverseRouteRow : OpenClaim := { program := "ytlankoameeacpaa", sum := "72a10e9ba5af1c02d0191b9ba1e5942b5476e7310f61b31898d0cd86d9c6adf2", func := "loop.example/g00897/laws.FnExactReverseRoute", spec := "fnExactReverseRoute", apart := false }
def FnExactReverseRouteSaid : Prop := fnExactReverseRouteRow.holds Try.pinned (OpenSpec.ofChange fnExactReverseRouteSpec)

/-- ITS FALSE NEIGHBOUR: 'it returns false'. Refute it at one input. -/
def fnExactReverseRouteWrong : ChangeSpec := { name := "fnExactReverseRoute", fn := fun _ => fun
  | [d1, d2] => { results := [.lit (.bool false)], args := [d1, d2] }
  | _ => none }
def FnExactReverseRouteWrongFalsely : Prop := fnExactReverseRouteRow.holds Try.pinned (OpenSpec.ofChange fnExactReverseRouteWrong)

/- THE SECOND FORM. 'bulk': how many values and letters a reading holds, each counted each time it is reached (what is shared counts as often as it is met; a slice's spare places count too). A statement '..UptoSaid' is the law's where the arguments, and the package variables that the reading takes, are together of bulk at most 1048576: NARROWER than '..Said'. Prove '..Said' where nothing that the law and all that it calls make is longer than what came in: it says more and counts as full. Else prove '..UptoSaid'. A law counts once. -/
mutual
def uptoBulk {H : Type} : DataW H → Nat
  | .lit (.string bytes) => bytes.length + 1
  | .lit _ => 1
  | .nil => 1
  | .ptr d => uptoBulk d + 1
  | .slice elems spare => uptoBulkAll elems + uptoBulkAll spare + 1
  | .agg parts => uptoBulkAll parts + 1
  | .iface _ d => uptoBulk d + 1
  | .map entries => uptoBulkEntries entries + 1
  | .held _ => 1
def uptoBulkAll {H : Type} : List (DataW H) → Nat
  | [] => 0
  | d :: r => uptoBulk d + uptoBulkAll r
def uptoBulkEntries {H : Type} : List (Lit × DataW H) → Nat
  | [] => 0
  | x :: r => uptoBulkEntry x + uptoBulkEntries r
def uptoBulkEntry {H : Type} : Lit × DataW H → Nat
  | (.string bytes, d) => bytes.length + uptoBulk d + 1
  | (_, d) => uptoBulk d + 1
 end
def uptoSmall : (H : Type) → List (DataW H) → Bool := fun _ ds => decide (uptoBulkAll ds ≤ 1048576)
def OpenSpec.upto (s : _root_.Go.ChangeSpec) : _root_.Go.OpenSpec := { _root_.Go.OpenSpec.ofChange s with cond := some uptoSmall }

/-- 'laws.FnField', WHERE WHAT IT READS IS OF BULK AT MOST 1048576: true; the input reads as it did. -/
def fnFieldUptoRow : OpenClaim := { program := "ytlankoameeacpaa", sum := "72a10e9ba5af1c02d0191b9ba1e5942b5476e7310f61b31898d0cd86d9c6adf2", func := "loop.example/g00897/laws.FnField", spec := "fnField", apart := false, narrowed := true }
def FnFieldUptoSaid : Prop := fnFieldUptoRow.holds Try.pinned (OpenSpec.upto fnFieldSpec)

/-- 'laws.FnExactTrafficBetween', WHERE WHAT IT READS IS OF BULK AT MOST 1048576: true; the input reads as it did. -/
def fnExactTrafficBetweenUptoRow : OpenClaim := { program := "ytlankoameeacpaa", sum := "72a10e9ba5af1c02d0191b9ba1e5942b5476e7310f61b31898d0cd86d9c6adf2", func := "loop.example/g00897/laws.FnExactTrafficBetween", spec := "fnExactTrafficBetween", apart := false, narrowed := true }
def FnExactTrafficBetweenUptoSaid : Prop := fnExactTrafficBetweenUptoRow.holds Try.pinned (OpenSpec.upto fnExactTrafficBetweenSpec)

/-- 'laws.FnExactCounterGaps', WHERE WHAT IT READS IS OF BULK AT MOST 1048576: true; the input reads as it did. -/
def fnExactCounterGapsUptoRow : OpenClaim := { program := "ytlankoameeacpaa", sum := "72a10e9ba5af1c02d0191b9ba1e5942b5476e7310f61b31898d0cd86d9c6adf2", func := "loop.example/g00897/laws.FnExactCounterGaps", spec := "fnExactCounterGaps", apart := false, narrowed := true }
def FnExactCounterGapsUptoSaid : Prop := fnExactCounterGapsUptoRow.holds Try.pinned (OpenSpec.upto fnExactCounterGapsSpec)

/-- 'laws.FnExactFibersBetween', WHERE WHAT IT READS IS OF BULK AT MOST 1048576: true; the input reads as it did. -/
def fnExactFibersBetweenUptoRow : OpenClaim := { program := "ytlankoameeacpaa", sum := "72a10e9ba5af1c02d0191b9ba1e5942b5476e7310f61b31898d0cd86d9c6adf2", func := "loop.example/g00897/laws.FnExactFibersBetween", spec := "fnExactFibersBetween", apart := false, narrowed := true }
def FnExactFibersBetweenUptoSaid : Prop := fnExactFibersBetweenUptoRow.holds Try.pinned (OpenSpec.upto fnExactFibersBetweenSpec)

/-- 'laws.FnExactRiskDisjoint', WHERE WHAT IT READS IS OF BULK AT MOST 1048576: true; the input reads as it did. -/
def fnExactRiskDisjointUptoRow : OpenClaim := { program := "ytlankoameeacpaa", sum := "72a10e9ba5af1c02d0191b9ba1e5942b5476e7310f61b31898d0cd86d9c6adf2", func := "loop.example/g00897/laws.FnExactRiskDisjoint", spec := "fnExactRiskDisjoint", apart := false, narrowed := true }
def FnExactRiskDisjointUptoSaid : Prop := fnExactRiskDisjointUptoRow.holds Try.pinned (OpenSpec.upto fnExactRiskDisjointSpec)

/-- 'laws.FnExactReverseRoute', WHERE WHAT IT READS IS OF BULK AT MOST 1048576: true; the input reads as it did. -/
def fnExactReverseRouteUptoRow : OpenClaim := { program := "ytlankoameeacpaa", sum := "72a10e9ba5af1c02d0191b9ba1e5942b5476e7310f61b31898d0cd86d9c6adf2", func := "loop.example/g00897/laws.FnExactReverseRoute", spec := "fnExactReverseRoute", apart := false, narrowed := true }
def FnExactReverseRouteUptoSaid : Prop := fnExactReverseRouteUptoRow.holds Try.pinned (OpenSpec.upto fnExactReverseRouteSpec)

end Rows
end Go.Proofs.Ytlankoameeacpaa
