/-
  NARROWER THAN 'FOR EVERY INPUT', by the rows' own cells (each row's printed sentence says how): FnExactLinearValue: laid · FnExactLevelOf: laid · FnExactNoiseSum: laid · FnExactFrameBytes: laid.
  DERIVED. THE GIVEN ROWS OF THIS SEAT. 4 by the template 'for every input the law returns true; each argument reads behind the call as it read before'; 0 by the template 'total and deterministic' (their statements: YtgaankdmppoghabDoorTotals.lean).
  GIVEN WITH THE SEED: the statements are not yours to turn. If you find one false, say at which input.
  Laid BY PROGRAM, IN A SANDBOX (cutbox-rows.mjs): the forced cells as the released guide's own fill.sh prints them over the translation d520bddb94af2fb2… (all of the seat's roots in one cut). By AI agents, Wed Nov 11 2026. No macro, syntax, notation, axiom, sorry.
-/
import Derived.Test.YtgaankdmppoghabDoorChecked
import GoSem.Claim
import GoSem.ClaimJoined
import GoSem.ClaimMapViews
import Derived.JoinedTies
import Derived.KernelRfl
namespace Go.Proofs.YtgaankdmppoghabDoor
/- THE CELL 'sum', in the pinned program and in every row, IS THE sha256 OF THE DUMP (.gsa) THAT YtgaankdmppoghabDoorProg.lean LOADS. Nothing in Lean hashes anything: it is a label: what it is worth is what the hold of that sum in a sandbox is worth. -/
noncomputable def Tryd.pinned : Pinned := { name := "ytgaankdmppoghabdoor", sum := "d520bddb94af2fb2eedbc59c21cc5e8711e0c18f5f4949a0ba86875c752eb972", checked := Tryd.checked }
namespace Rows
def none {H : Type} : Left H := { results := [], args := [] }

/- WHAT THE LISTED PACKAGE-LEVEL VARIABLES READ AS WHEN THE CALL BEGINS. Each datum BY PROGRAM (the guide's laid-datum.mjs) off the statement by which the dump's own 'gosem.cut.vars' lays the variable. In a bare row this is a premise. The card (YtgaankdmppoghabDoorCards.lean) ties it to the program's text. -/
def laid_loop_example_g00897_impl_linearValues {H : Type} : DataW H := .agg [.lit (.int .i64 1000), .lit (.int .i64 1259), .lit (.int .i64 1585), .lit (.int .i64 1995), .lit (.int .i64 2512), .lit (.int .i64 3162), .lit (.int .i64 3981), .lit (.int .i64 5012), .lit (.int .i64 6310), .lit (.int .i64 7943)]
def laid_bytes_ErrTooLarge {H : Type} : DataW H := .iface "*errors.errorString" (.ptr (.agg [.lit (.string [98, 121, 116, 101, 115, 46, 66, 117, 102, 102, 101, 114, 58, 32, 116, 111, 111, 32, 108, 97, 114, 103, 101])]))

/-- 'laws.FnExactLinearValue': WHATEVER THE INPUT: true; the input reads as it did. -/
def fnExactLinearValueSpec : ChangeSpec := { name := "fnExactLinearValue", vars := ["loop.example/g00897/impl.linearValues"], fn := fun _ => fun
  | [d, g1] => { results := [.lit (.bool true)], args := [d], vars := [g1] }
  | _ => none }
def fnExactLinearValueRow : OpenClaim := { program := "ytgaankdmppoghabdoor", sum := "d520bddb94af2fb2eedbc59c21cc5e8711e0c18f5f4949a0ba86875c752eb972", func := "loop.example/g00897/laws.FnExactLinearValue", spec := "fnExactLinearValue", named := ["loop.example/g00897/impl.linearValues"], apart := false, laid := [("loop.example/g00897/impl.linearValues", laid_loop_example_g00897_impl_linearValues)] }
def FnExactLinearValueSaid : Prop := fnExactLinearValueRow.holds Tryd.pinned (OpenSpec.ofChange fnExactLinearValueSpec)

/-- ITS FALSE NEIGHBOUR: 'it returns false'. Refute it at one input. -/
def fnExactLinearValueWrong : ChangeSpec := { name := "fnExactLinearValue", vars := ["loop.example/g00897/impl.linearValues"], fn := fun _ => fun
  | [d, g1] => { results := [.lit (.bool false)], args := [d], vars := [g1] }
  | _ => none }
def FnExactLinearValueWrongFalsely : Prop := fnExactLinearValueRow.holds Tryd.pinned (OpenSpec.ofChange fnExactLinearValueWrong)

/-- 'laws.FnExactLevelOf': WHATEVER THE INPUT: true; the input reads as it did. -/
def fnExactLevelOfSpec : ChangeSpec := { name := "fnExactLevelOf", vars := ["loop.example/g00897/impl.linearValues"], fn := fun _ => fun
  | [d, g1] => { results := [.lit (.bool true)], args := [d], vars := [g1] }
  | _ => none }
def fnExactLevelOfRow : OpenClaim := { program := "ytgaankdmppoghabdoor", sum := "d520bddb94af2fb2eedbc59c21cc5e8711e0c18f5f4949a0ba86875c752eb972", func := "loop.example/g00897/laws.FnExactLevelOf", spec := "fnExactLevelOf", named := ["loop.example/g00897/impl.linearValues"], apart := false, laid := [("loop.example/g00897/impl.linearValues", laid_loop_example_g00897_impl_linearValues)] }
def FnExactLevelOfSaid : Prop := fnExactLevelOfRow.holds Tryd.pinned (OpenSpec.ofChange fnExactLevelOfSpec)

/-- ITS FALSE NEIGHBOUR: 'it returns false'. Refute it at one input. -/
def fnExactLevelOfWrong : ChangeSpec := { name := "fnExactLevelOf", vars := ["loop.example/g00897/impl.linearValues"], fn := fun _ => fun
  | [d, g1] => { results := [.lit (.bool false)], args := [d], vars := [g1] }
  | _ => none }
def FnExactLevelOfWrongFalsely : Prop := fnExactLevelOfRow.holds Tryd.pinned (OpenSpec.ofChange fnExactLevelOfWrong)

/-- 'laws.FnExactNoiseSum': WHATEVER THE INPUT: true; the input reads as it did. -/
def fnExactNoiseSumSpec : ChangeSpec := { name := "fnExactNoiseSum", vars := ["loop.example/g00897/impl.linearValues"], fn := fun _ => fun
  | [d, g1] => { results := [.lit (.bool true)], args := [d], vars := [g1] }
  | _ => none }
def fnExactNoiseSumRow : OpenClaim := { program := "ytgaankdmppoghabdoor", sum := "d520bddb94af2fb2eedbc59c21cc5e8711e0c18f5f4949a0ba86875c752eb972", func := "loop.example/g00897/laws.FnExactNoiseSum", spec := "fnExactNoiseSum", named := ["loop.example/g00897/impl.linearValues"], apart := false, laid := [("loop.example/g00897/impl.linearValues", laid_loop_example_g00897_impl_linearValues)] }
def FnExactNoiseSumSaid : Prop := fnExactNoiseSumRow.holds Tryd.pinned (OpenSpec.ofChange fnExactNoiseSumSpec)

/-- ITS FALSE NEIGHBOUR: 'it returns false'. Refute it at one input. -/
def fnExactNoiseSumWrong : ChangeSpec := { name := "fnExactNoiseSum", vars := ["loop.example/g00897/impl.linearValues"], fn := fun _ => fun
  | [d, g1] => { results := [.lit (.bool false)], args := [d], vars := [g1] }
  | _ => none }
def FnExactNoiseSumWrongFalsely : Prop := fnExactNoiseSumRow.holds Tryd.pinned (OpenSpec.ofChange fnExactNoiseSumWrong)

/-- 'laws.FnExactFrameBytes': WHATEVER THE INPUT: true; the input reads as it did. -/
def fnExactFrameBytesSpec : ChangeSpec := { name := "fnExactFrameBytes", fn := fun _ => fun
  | [d] => { results := [.lit (.bool true)], args := [d] }
  | _ => none }
def fnExactFrameBytesRow : OpenClaim := { program := "ytgaankdmppoghabdoor", sum := "d520bddb94af2fb2eedbc59c21cc5e8711e0c18f5f4949a0ba86875c752eb972", func := "loop.example/g00897/laws.FnExactFrameBytes", spec := "fnExactFrameBytes", named := ["bytes.ErrTooLarge"], apart := false, laid := [("bytes.ErrTooLarge", laid_bytes_ErrTooLarge)] }
def FnExactFrameBytesSaid : Prop := fnExactFrameBytesRow.holds Tryd.pinned (OpenSpec.ofChange fnExactFrameBytesSpec)

/-- ITS FALSE NEIGHBOUR: 'it returns false'. Refute it at one input. -/
def fnExactFrameBytesWrong : ChangeSpec := { name := "fnExactFrameBytes", fn := fun _ => fun
  | [d] => { results := [.lit (.bool false)], args := [d] }
  | _ => none }
def FnExactFrameBytesWrongFalsely : Prop := fnExactFrameBytesRow.holds Tryd.pinned (OpenSpec.ofChange fnExactFrameBytesWrong)

/- THE SECOND FORM. 'bulk': how many values and letters a reading holds, each counted each time it is reached (what is shared counts as often as it is met; a slice's spare places count too). A statement '..UptoSaid' is the law's where the arguments, and the package variables that the reading takes, are together of bulk at most 1048576: NARROWER than '..Said'. Prove '..Said' where nothing that the law and all that it calls make is longer than what came in: it says more and counts as full. Else prove '..UptoSaid'. A law counts once. -/
mutual
def uptoBulk {H : Type} : DataW H → Nat
  | .lit (.string bytes) => bytes.length + 1
  | .lit _ => 1
  | .nil => 1
  | .ptr d => uptoBulk d + 1
  | .slice elems spare => uptoBulkAll elems + uptoBulkAll spare + 1
  | .agg parts => uptoBulkAll parts + 1
  | .iface _ d => uptoBulk d + 1
  | .map entries => uptoBulkEntries entries + 1
  | .held _ => 1
def uptoBulkAll {H : Type} : List (DataW H) → Nat
  | [] => 0
  | d :: r => uptoBulk d + uptoBulkAll r
def uptoBulkEntries {H : Type} : List (Lit × DataW H) → Nat
  | [] => 0
  | x :: r => uptoBulkEntry x + uptoBulkEntries r
def uptoBulkEntry {H : Type} : Lit × DataW H → Nat
  | (.string bytes, d) => bytes.length + uptoBulk d + 1
  | (_, d) => uptoBulk d + 1
 end
def uptoSmall : (H : Type) → List (DataW H) → Bool := fun _ ds => decide (uptoBulkAll ds ≤ 1048576)
def OpenSpec.upto (s : _root_.Go.ChangeSpec) : _root_.Go.OpenSpec := { _root_.Go.OpenSpec.ofChange s with cond := some uptoSmall }

/-- 'laws.FnExactLinearValue', WHERE WHAT IT READS IS OF BULK AT MOST 1048576: true; the input reads as it did. -/
def fnExactLinearValueUptoRow : OpenClaim := { program := "ytgaankdmppoghabdoor", sum := "d520bddb94af2fb2eedbc59c21cc5e8711e0c18f5f4949a0ba86875c752eb972", func := "loop.example/g00897/laws.FnExactLinearValue", spec := "fnExactLinearValue", named := ["loop.example/g00897/impl.linearValues"], apart := false, laid := [("loop.example/g00897/impl.linearValues", laid_loop_example_g00897_impl_linearValues)], narrowed := true }
def FnExactLinearValueUptoSaid : Prop := fnExactLinearValueUptoRow.holds Tryd.pinned (OpenSpec.upto fnExactLinearValueSpec)

/-- 'laws.FnExactLevelOf', WHERE WHAT IT READS IS OF BULK AT MOST 1048576: true; the input reads as it did. -/
def fnExactLevelOfUptoRow : OpenClaim := { program := "ytgaankdmppoghabdoor", sum := "d520bddb94af2fb2eedbc59c21cc5e8711e0c18f5f4949a0ba86875c752eb972", func := "loop.example/g00897/laws.FnExactLevelOf", spec := "fnExactLevelOf", named := ["loop.example/g00897/impl.linearValues"], apart := false, laid := [("loop.example/g00897/impl.linearValues", laid_loop_example_g00897_impl_linearValues)], narrowed := true }
def FnExactLevelOfUptoSaid : Prop := fnExactLevelOfUptoRow.holds Tryd.pinned (OpenSpec.upto fnExactLevelOfSpec)

/-- 'laws.FnExactNoiseSum', WHERE WHAT IT READS IS OF BULK AT MOST 1048576: true; the input reads as it did. -/
def fnExactNoiseSumUptoRow : OpenClaim := { program := "ytgaankdmppoghabdoor", sum := "d520bddb94af2fb2eedbc59c21cc5e8711e0c18f5f4949a0ba86875c752eb972", func := "loop.example/g00897/laws.FnExactNoiseSum", spec := "fnExactNoiseSum", named := ["loop.example/g00897/impl.linearValues"], apart := false, laid := [("loop.example/g00897/impl.linearValues", laid_loop_example_g00897_impl_linearValues)], narrowed := true }
def FnExactNoiseSumUptoSaid : Prop := fnExactNoiseSumUptoRow.holds Tryd.pinned (OpenSpec.upto fnExactNoiseSumSpec)

/-- 'laws.FnExactFrameBytes', WHERE WHAT IT READS IS OF BULK AT MOST 1048576: true; the input reads as it did. -/
def fnExactFrameBytesUptoRow : OpenClaim := { program := "ytgaankdmppoghabdoor", sum := "d520bddb94af2fb2eedbc59c21cc5e8711e0c18f5f4949a0ba86875c752eb972", func := "loop.example/g00897/laws.FnExactFrameBytes", spec := "fnExactFrameBytes", named := ["bytes.ErrTooLarge"], apart := false, laid := [("bytes.ErrTooLarge", laid_bytes_ErrTooLarge)], narrowed := true }
def FnExactFrameBytesUptoSaid : Prop := fnExactFrameBytesUptoRow.holds Tryd.pinned (OpenSpec.upto fnExactFrameBytesSpec)

end Rows
end Go.Proofs.YtgaankdmppoghabDoor
