/-
  NARROWER THAN 'FOR EVERY INPUT', by the rows' own cells (each row's printed sentence says how): FnExactProtectedFibers: laid · FnExactRingEfficiency: laid · FnExactRingCapacity: laid · FnExactServiceMasks: laid.
  DERIVED. THE GIVEN ROWS OF THIS SEAT. 4 by the template 'for every input the law returns true; each argument reads behind the call as it read before'; 0 by the template 'total and deterministic' (their statements: YtkpendpjdemknaaDoorTotals.lean).
  GIVEN WITH THE SEED: the statements are not yours to turn. If you find one false, say at which input.
  Laid BY PROGRAM, IN A SANDBOX (cutbox-rows.mjs): the forced cells as the released guide's own fill.sh prints them over the translation 448f53a969fe8462… (all of the seat's roots in one cut). By AI agents, Wed Nov 11 2026. No macro, syntax, notation, axiom, sorry.
-/
import Derived.Test.YtkpendpjdemknaaDoorChecked
import GoSem.Claim
import GoSem.ClaimJoined
import GoSem.ClaimMapViews
import Derived.JoinedTies
import Derived.KernelRfl
namespace Go.Proofs.YtkpendpjdemknaaDoor
/- THE CELL 'sum', in the pinned program and in every row, IS THE sha256 OF THE DUMP (.gsa) THAT YtkpendpjdemknaaDoorProg.lean LOADS. Nothing in Lean hashes anything: it is a label: what it is worth is what the hold of that sum in a sandbox is worth. -/
noncomputable def Tryd.pinned : Pinned := { name := "ytkpendpjdemknaadoor", sum := "448f53a969fe84623493d0a3212de45b61e249ccc098ae2afe39f57ef7743bd5", checked := Tryd.checked }
namespace Rows
def none {H : Type} : Left H := { results := [], args := [] }

/- WHAT THE LISTED PACKAGE-LEVEL VARIABLES READ AS WHEN THE CALL BEGINS. Each datum BY PROGRAM (the guide's laid-datum.mjs) off the statement by which the dump's own 'gosem.cut.vars' lays the variable. In a bare row this is a premise. The card (YtkpendpjdemknaaDoorCards.lean) ties it to the program's text. -/
def laid_math_bits_deBruijn32tab {H : Type} : DataW H := .agg [.lit (.int .u8 0), .lit (.int .u8 1), .lit (.int .u8 28), .lit (.int .u8 2), .lit (.int .u8 29), .lit (.int .u8 14), .lit (.int .u8 24), .lit (.int .u8 3), .lit (.int .u8 30), .lit (.int .u8 22), .lit (.int .u8 20), .lit (.int .u8 15), .lit (.int .u8 25), .lit (.int .u8 17), .lit (.int .u8 4), .lit (.int .u8 8), .lit (.int .u8 31), .lit (.int .u8 27), .lit (.int .u8 13), .lit (.int .u8 23), .lit (.int .u8 21), .lit (.int .u8 19), .lit (.int .u8 16), .lit (.int .u8 7), .lit (.int .u8 26), .lit (.int .u8 12), .lit (.int .u8 18), .lit (.int .u8 6), .lit (.int .u8 11), .lit (.int .u8 5), .lit (.int .u8 10), .lit (.int .u8 9)]
def laid_math_bits_deBruijn64tab {H : Type} : DataW H := .agg [.lit (.int .u8 0), .lit (.int .u8 1), .lit (.int .u8 56), .lit (.int .u8 2), .lit (.int .u8 57), .lit (.int .u8 49), .lit (.int .u8 28), .lit (.int .u8 3), .lit (.int .u8 61), .lit (.int .u8 58), .lit (.int .u8 42), .lit (.int .u8 50), .lit (.int .u8 38), .lit (.int .u8 29), .lit (.int .u8 17), .lit (.int .u8 4), .lit (.int .u8 62), .lit (.int .u8 47), .lit (.int .u8 59), .lit (.int .u8 36), .lit (.int .u8 45), .lit (.int .u8 43), .lit (.int .u8 51), .lit (.int .u8 22), .lit (.int .u8 53), .lit (.int .u8 39), .lit (.int .u8 33), .lit (.int .u8 30), .lit (.int .u8 24), .lit (.int .u8 18), .lit (.int .u8 12), .lit (.int .u8 5), .lit (.int .u8 63), .lit (.int .u8 55), .lit (.int .u8 48), .lit (.int .u8 27), .lit (.int .u8 60), .lit (.int .u8 41), .lit (.int .u8 37), .lit (.int .u8 16), .lit (.int .u8 46), .lit (.int .u8 35), .lit (.int .u8 44), .lit (.int .u8 21), .lit (.int .u8 52), .lit (.int .u8 32), .lit (.int .u8 23), .lit (.int .u8 11), .lit (.int .u8 54), .lit (.int .u8 26), .lit (.int .u8 40), .lit (.int .u8 15), .lit (.int .u8 34), .lit (.int .u8 20), .lit (.int .u8 31), .lit (.int .u8 10), .lit (.int .u8 25), .lit (.int .u8 14), .lit (.int .u8 19), .lit (.int .u8 9), .lit (.int .u8 13), .lit (.int .u8 8), .lit (.int .u8 7), .lit (.int .u8 6)]

/-- 'laws.FnExactProtectedFibers': WHATEVER THE INPUT: true; the input reads as it did. -/
def fnExactProtectedFibersSpec : ChangeSpec := { name := "fnExactProtectedFibers", fn := fun _ => fun
  | [d1, d2] => { results := [.lit (.bool true)], args := [d1, d2] }
  | _ => none }
def fnExactProtectedFibersRow : OpenClaim := { program := "ytkpendpjdemknaadoor", sum := "448f53a969fe84623493d0a3212de45b61e249ccc098ae2afe39f57ef7743bd5", func := "loop.example/g00897/laws.FnExactProtectedFibers", spec := "fnExactProtectedFibers", named := ["math/bits.deBruijn32tab", "math/bits.deBruijn64tab"], apart := false, laid := [("math/bits.deBruijn32tab", laid_math_bits_deBruijn32tab), ("math/bits.deBruijn64tab", laid_math_bits_deBruijn64tab)] }
def FnExactProtectedFibersSaid : Prop := fnExactProtectedFibersRow.holds Tryd.pinned (OpenSpec.ofChange fnExactProtectedFibersSpec)

/-- ITS FALSE NEIGHBOUR: 'it returns false'. Refute it at one input. -/
def fnExactProtectedFibersWrong : ChangeSpec := { name := "fnExactProtectedFibers", fn := fun _ => fun
  | [d1, d2] => { results := [.lit (.bool false)], args := [d1, d2] }
  | _ => none }
def FnExactProtectedFibersWrongFalsely : Prop := fnExactProtectedFibersRow.holds Tryd.pinned (OpenSpec.ofChange fnExactProtectedFibersWrong)

/-- 'laws.FnExactRingEfficiency': WHATEVER THE INPUT: true; the input reads as it did. -/
def fnExactRingEfficiencySpec : ChangeSpec := { name := "fnExactRingEfficiency", fn := fun _ => fun
  | [d1, d2] => { results := [.lit (.bool true)], args := [d1, d2] }
  | _ => none }
def fnExactRingEfficiencyRow : OpenClaim := { program := "ytkpendpjdemknaadoor", sum := "448f53a969fe84623493d0a3212de45b61e249ccc098ae2afe39f57ef7743bd5", func := "loop.example/g00897/laws.FnExactRingEfficiency", spec := "fnExactRingEfficiency", named := ["math/bits.deBruijn32tab", "math/bits.deBruijn64tab"], apart := false, laid := [("math/bits.deBruijn32tab", laid_math_bits_deBruijn32tab), ("math/bits.deBruijn64tab", laid_math_bits_deBruijn64tab)] }
def FnExactRingEfficiencySaid : Prop := fnExactRingEfficiencyRow.holds Tryd.pinned (OpenSpec.ofChange fnExactRingEfficiencySpec)

/-- ITS FALSE NEIGHBOUR: 'it returns false'. Refute it at one input. -/
def fnExactRingEfficiencyWrong : ChangeSpec := { name := "fnExactRingEfficiency", fn := fun _ => fun
  | [d1, d2] => { results := [.lit (.bool false)], args := [d1, d2] }
  | _ => none }
def FnExactRingEfficiencyWrongFalsely : Prop := fnExactRingEfficiencyRow.holds Tryd.pinned (OpenSpec.ofChange fnExactRingEfficiencyWrong)

/-- 'laws.FnExactRingCapacity': WHATEVER THE INPUT: true; the input reads as it did. -/
def fnExactRingCapacitySpec : ChangeSpec := { name := "fnExactRingCapacity", fn := fun _ => fun
  | [d1, d2, d3] => { results := [.lit (.bool true)], args := [d1, d2, d3] }
  | _ => none }
def fnExactRingCapacityRow : OpenClaim := { program := "ytkpendpjdemknaadoor", sum := "448f53a969fe84623493d0a3212de45b61e249ccc098ae2afe39f57ef7743bd5", func := "loop.example/g00897/laws.FnExactRingCapacity", spec := "fnExactRingCapacity", named := ["math/bits.deBruijn32tab", "math/bits.deBruijn64tab"], apart := false, laid := [("math/bits.deBruijn32tab", laid_math_bits_deBruijn32tab), ("math/bits.deBruijn64tab", laid_math_bits_deBruijn64tab)] }
def FnExactRingCapacitySaid : Prop := fnExactRingCapacityRow.holds Tryd.pinned (OpenSpec.ofChange fnExactRingCapacitySpec)

/-- ITS FALSE NEIGHBOUR: 'it returns false'. Refute it at one input. -/
def fnExactRingCapacityWrong : ChangeSpec := { name := "fnExactRingCapacity", fn := fun _ => fun
  | [d1, d2, d3] => { results := [.lit (.bool false)], args := [d1, d2, d3] }
  | _ => none }
def FnExactRingCapacityWrongFalsely : Prop := fnExactRingCapacityRow.holds Tryd.pinned (OpenSpec.ofChange fnExactRingCapacityWrong)

/-- 'laws.FnExactServiceMasks': WHATEVER THE INPUT: true; the input reads as it did. -/
def fnExactServiceMasksSpec : ChangeSpec := { name := "fnExactServiceMasks", fn := fun _ => fun
  | [d1, d2] => { results := [.lit (.bool true)], args := [d1, d2] }
  | _ => none }
def fnExactServiceMasksRow : OpenClaim := { program := "ytkpendpjdemknaadoor", sum := "448f53a969fe84623493d0a3212de45b61e249ccc098ae2afe39f57ef7743bd5", func := "loop.example/g00897/laws.FnExactServiceMasks", spec := "fnExactServiceMasks", named := ["math/bits.deBruijn32tab", "math/bits.deBruijn64tab"], apart := false, laid := [("math/bits.deBruijn32tab", laid_math_bits_deBruijn32tab), ("math/bits.deBruijn64tab", laid_math_bits_deBruijn64tab)] }
def FnExactServiceMasksSaid : Prop := fnExactServiceMasksRow.holds Tryd.pinned (OpenSpec.ofChange fnExactServiceMasksSpec)

/-- ITS FALSE NEIGHBOUR: 'it returns false'. Refute it at one input. -/
def fnExactServiceMasksWrong : ChangeSpec := { name := "fnExactServiceMasks", fn := fun _ => fun
  | [d1, d2] => { results := [.lit (.bool false)], args := [d1, d2] }
  | _ => none }
def FnExactServiceMasksWrongFalsely : Prop := fnExactServiceMasksRow.holds Tryd.pinned (OpenSpec.ofChange fnExactServiceMasksWrong)

/- THE SECOND FORM. 'bulk': how many values and letters a reading holds, each counted each time it is reached (what is shared counts as often as it is met; a slice's spare places count too). A statement '..UptoSaid' is the law's where the arguments, and the package variables that the reading takes, are together of bulk at most 1048576: NARROWER than '..Said'. Prove '..Said' where nothing that the law and all that it calls make is longer than what came in: it says more and counts as full. Else prove '..UptoSaid'. A law counts once. -/
mutual
def uptoBulk {H : Type} : DataW H → Nat
  | .lit (.string bytes) => bytes.length + 1
  | .lit _ => 1
  | .nil => 1
  | .ptr d => uptoBulk d + 1
  | .slice elems spare => uptoBulkAll elems + uptoBulkAll spare + 1
  | .agg parts => uptoBulkAll parts + 1
  | .iface _ d => uptoBulk d + 1
  | .map entries => uptoBulkEntries entries + 1
  | .held _ => 1
def uptoBulkAll {H : Type} : List (DataW H) → Nat
  | [] => 0
  | d :: r => uptoBulk d + uptoBulkAll r
def uptoBulkEntries {H : Type} : List (Lit × DataW H) → Nat
  | [] => 0
  | x :: r => uptoBulkEntry x + uptoBulkEntries r
def uptoBulkEntry {H : Type} : Lit × DataW H → Nat
  | (.string bytes, d) => bytes.length + uptoBulk d + 1
  | (_, d) => uptoBulk d + 1
 end
def uptoSmall : (H : Type) → List (DataW H) → Bool := fun _ ds => decide (uptoBulkAll ds ≤ 1048576)
def OpenSpec.upto (s : _root_.Go.ChangeSpec) : _root_.Go.OpenSpec := { _root_.Go.OpenSpec.ofChange s with cond := some uptoSmall }

/-- 'laws.FnExactProtectedFibers', WHERE WHAT IT READS IS OF BULK AT MOST 1048576: true; the input reads as it did. -/
def fnExactProtectedFibersUptoRow : OpenClaim := { program := "ytkpendpjdemknaadoor", sum := "448f53a969fe84623493d0a3212de45b61e249ccc098ae2afe39f57ef7743bd5", func := "loop.example/g00897/laws.FnExactProtectedFibers", spec := "fnExactProtectedFibers", named := ["math/bits.deBruijn32tab", "math/bits.deBruijn64tab"], apart := false, laid := [("math/bits.deBruijn32tab", laid_math_bits_deBruijn32tab), ("math/bits.deBruijn64tab", laid_math_bits_deBruijn64tab)], narrowed := true }
def FnExactProtectedFibersUptoSaid : Prop := fnExactProtectedFibersUptoRow.holds Tryd.pinned (OpenSpec.upto fnExactProtectedFibersSpec)

/-- 'laws.FnExactRingEfficiency', WHERE WHAT IT READS IS OF BULK AT MOST 1048576: true; the input reads as it did. -/
def fnExactRingEfficiencyUptoRow : OpenClaim := { program := "ytkpendpjdemknaadoor", sum := "448f53a969fe84623493d0a3212de45b61e249ccc098ae2afe39f57ef7743bd5", func := "loop.example/g00897/laws.FnExactRingEfficiency", spec := "fnExactRingEfficiency", named := ["math/bits.deBruijn32tab", "math/bits.deBruijn64tab"], apart := false, laid := [("math/bits.deBruijn32tab", laid_math_bits_deBruijn32tab), ("math/bits.deBruijn64tab", laid_math_bits_deBruijn64tab)], narrowed := true }
def FnExactRingEfficiencyUptoSaid : Prop := fnExactRingEfficiencyUptoRow.holds Tryd.pinned (OpenSpec.upto fnExactRingEfficiencySpec)

/-- 'laws.FnExactRingCapacity', WHERE WHAT IT READS IS OF BULK AT MOST 1048576: true; the input reads as it did. -/
def fnExactRingCapacityUptoRow : OpenClaim := { program := "ytkpendpjdemknaadoor", sum := "448f53a969fe84623493d0a3212de45b61e249ccc098ae2afe39f57ef7743bd5", func := "loop.example/g00897/laws.FnExactRingCapacity", spec := "fnExactRingCapacity", named := ["math/bits.deBruijn32tab", "math/bits.deBruijn64tab"], apart := false, laid := [("math/bits.deBruijn32tab", laid_math_bits_deBruijn32tab), ("math/bits.deBruijn64tab", laid_math_bits_deBruijn64tab)], narrowed := true }
def FnExactRingCapacityUptoSaid : Prop := fnExactRingCapacityUptoRow.holds Tryd.pinned (OpenSpec.upto fnExactRingCapacitySpec)

/-- 'laws.FnExactServiceMasks', WHERE WHAT IT READS IS OF BULK AT MOST 1048576: true; the input reads as it did. -/
def fnExactServiceMasksUptoRow : OpenClaim := { program := "ytkpendpjdemknaadoor", sum := "448f53a969fe84623493d0a3212de45b61e249ccc098ae2afe39f57ef7743bd5", func := "loop.example/g00897/laws.FnExactServiceMasks", spec := "fnExactServiceMasks", named := ["math/bits.deBruijn32tab", "math/bits.deBruijn64tab"], apart := false, laid := [("math/bits.deBruijn32tab", laid_math_bits_deBruijn32tab), ("math/bits.deBruijn64tab", laid_math_bits_deBruijn64tab)], narrowed := true }
def FnExactServiceMasksUptoSaid : Prop := fnExactServiceMasksUptoRow.holds Tryd.pinned (OpenSpec.upto fnExactServiceMasksSpec)

end Rows
end Go.Proofs.YtkpendpjdemknaaDoor
