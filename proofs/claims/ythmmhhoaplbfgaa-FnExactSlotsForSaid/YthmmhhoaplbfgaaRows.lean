/-
  No cell of these rows narrows 'for every input' (looked for: loops, veiled, ifaces, maps, wideKeys, modest, calm, conditions, laid).
  DERIVED. THE GIVEN ROWS OF THIS SEAT. 11 by the template 'for every input the law returns true; each argument reads behind the call as it read before'; 0 by the template 'total and deterministic' (their statements: YthmmhhoaplbfgaaTotals.lean).
  GIVEN WITH THE SEED: the statements are not yours to turn. If you find one false, say at which input.
  Laid BY PROGRAM, IN A SANDBOX (cutbox-rows.mjs): the forced cells as the released guide's own fill.sh prints them over the translation 58a205241467c65a… (all of the seat's roots in one cut). By AI agents, Wed Nov 11 2026. No macro, syntax, notation, axiom, sorry.
-/
import Derived.Test.YthmmhhoaplbfgaaChecked
import GoSem.Claim
import GoSem.ClaimJoined
import GoSem.ClaimMapViews
import Derived.JoinedTies
import Derived.KernelRfl
namespace Go.Proofs.Ythmmhhoaplbfgaa
/- THE CELL 'sum', in the pinned program and in every row, IS THE sha256 OF THE DUMP (.gsa) THAT YthmmhhoaplbfgaaProg.lean LOADS. Nothing in Lean hashes anything: it is a label: what it is worth is what the hold of that sum in a sandbox is worth. -/
noncomputable def Try.pinned : Pinned := { name := "ythmmhhoaplbfgaa", sum := "58a205241467c65a2337af52af9f0e93a6a89fa296ee88abffab6e75e262a37c", checked := Try.checked }
namespace Rows
def none {H : Type} : Left H := { results := [], args := [] }

/-- 'laws.FnNetworks': WHATEVER THE INPUT: true; the input reads as it did. -/
def fnNetworksSpec : ChangeSpec := { name := "fnNetworks", fn := fun _ => fun
  | [d] => { results := [.lit (.bool true)], args := [d] }
  | _ => none }
def fnNetworksRow : OpenClaim := { program := "ythmmhhoaplbfgaa", sum := "58a205241467c65a2337af52af9f0e93a6a89fa296ee88abffab6e75e262a37c", func := "loop.example/g00897/laws.FnNetworks", spec := "fnNetworks", apart := false }
def FnNetworksSaid : Prop := fnNetworksRow.holds Try.pinned (OpenSpec.ofChange fnNetworksSpec)

/-- ITS FALSE NEIGHBOUR: 'it returns false'. Refute it at one input. -/
def fnNetworksWrong : ChangeSpec := { name := "fnNetworks", fn := fun _ => fun
  | [d] => { results := [.lit (.bool false)], args := [d] }
  | _ => none }
def FnNetworksWrongFalsely : Prop := fnNetworksRow.holds Try.pinned (OpenSpec.ofChange fnNetworksWrong)

/-- 'laws.FnFormats': WHATEVER THE INPUT: true; the input reads as it did. -/
def fnFormatsSpec : ChangeSpec := { name := "fnFormats", fn := fun _ => fun
  | [d] => { results := [.lit (.bool true)], args := [d] }
  | _ => none }
def fnFormatsRow : OpenClaim := { program := "ythmmhhoaplbfgaa", sum := "58a205241467c65a2337af52af9f0e93a6a89fa296ee88abffab6e75e262a37c", func := "loop.example/g00897/laws.FnFormats", spec := "fnFormats", unfollowed := true, recurses := true, apart := false }
def FnFormatsSaid : Prop := fnFormatsRow.holds Try.pinned (OpenSpec.ofChange fnFormatsSpec)

/-- ITS FALSE NEIGHBOUR: 'it returns false'. Refute it at one input. -/
def fnFormatsWrong : ChangeSpec := { name := "fnFormats", fn := fun _ => fun
  | [d] => { results := [.lit (.bool false)], args := [d] }
  | _ => none }
def FnFormatsWrongFalsely : Prop := fnFormatsRow.holds Try.pinned (OpenSpec.ofChange fnFormatsWrong)

/-- 'laws.FnExactIsValidFormats': WHATEVER THE INPUT: true; the input reads as it did. -/
def fnExactIsValidFormatsSpec : ChangeSpec := { name := "fnExactIsValidFormats", fn := fun _ => fun
  | [d] => { results := [.lit (.bool true)], args := [d] }
  | _ => none }
def fnExactIsValidFormatsRow : OpenClaim := { program := "ythmmhhoaplbfgaa", sum := "58a205241467c65a2337af52af9f0e93a6a89fa296ee88abffab6e75e262a37c", func := "loop.example/g00897/laws.FnExactIsValidFormats", spec := "fnExactIsValidFormats", apart := false }
def FnExactIsValidFormatsSaid : Prop := fnExactIsValidFormatsRow.holds Try.pinned (OpenSpec.ofChange fnExactIsValidFormatsSpec)

/-- ITS FALSE NEIGHBOUR: 'it returns false'. Refute it at one input. -/
def fnExactIsValidFormatsWrong : ChangeSpec := { name := "fnExactIsValidFormats", fn := fun _ => fun
  | [d] => { results := [.lit (.bool false)], args := [d] }
  | _ => none }
def FnExactIsValidFormatsWrongFalsely : Prop := fnExactIsValidFormatsRow.holds Try.pinned (OpenSpec.ofChange fnExactIsValidFormatsWrong)

/-- 'laws.FnExactFormatFor': WHATEVER THE INPUT: true; the input reads as it did. -/
def fnExactFormatForSpec : ChangeSpec := { name := "fnExactFormatFor", fn := fun _ => fun
  | [d1, d2] => { results := [.lit (.bool true)], args := [d1, d2] }
  | _ => none }
def fnExactFormatForRow : OpenClaim := { program := "ythmmhhoaplbfgaa", sum := "58a205241467c65a2337af52af9f0e93a6a89fa296ee88abffab6e75e262a37c", func := "loop.example/g00897/laws.FnExactFormatFor", spec := "fnExactFormatFor", unfollowed := true, recurses := true, apart := false }
def FnExactFormatForSaid : Prop := fnExactFormatForRow.holds Try.pinned (OpenSpec.ofChange fnExactFormatForSpec)

/-- ITS FALSE NEIGHBOUR: 'it returns false'. Refute it at one input. -/
def fnExactFormatForWrong : ChangeSpec := { name := "fnExactFormatFor", fn := fun _ => fun
  | [d1, d2] => { results := [.lit (.bool false)], args := [d1, d2] }
  | _ => none }
def FnExactFormatForWrongFalsely : Prop := fnExactFormatForRow.holds Try.pinned (OpenSpec.ofChange fnExactFormatForWrong)

/-- 'laws.FnExactSlotsFor': WHATEVER THE INPUT: true; the input reads as it did. -/
def fnExactSlotsForSpec : ChangeSpec := { name := "fnExactSlotsFor", fn := fun _ => fun
  | [d1, d2, d3] => { results := [.lit (.bool true)], args := [d1, d2, d3] }
  | _ => none }
def fnExactSlotsForRow : OpenClaim := { program := "ythmmhhoaplbfgaa", sum := "58a205241467c65a2337af52af9f0e93a6a89fa296ee88abffab6e75e262a37c", func := "loop.example/g00897/laws.FnExactSlotsFor", spec := "fnExactSlotsFor", unfollowed := true, recurses := true, apart := false }
def FnExactSlotsForSaid : Prop := fnExactSlotsForRow.holds Try.pinned (OpenSpec.ofChange fnExactSlotsForSpec)

/-- ITS FALSE NEIGHBOUR: 'it returns false'. Refute it at one input. -/
def fnExactSlotsForWrong : ChangeSpec := { name := "fnExactSlotsFor", fn := fun _ => fun
  | [d1, d2, d3] => { results := [.lit (.bool false)], args := [d1, d2, d3] }
  | _ => none }
def FnExactSlotsForWrongFalsely : Prop := fnExactSlotsForRow.holds Try.pinned (OpenSpec.ofChange fnExactSlotsForWrong)

/-- 'laws.FnExactIsValidDemands': WHATEVER THE INPUT: true; the input reads as it did. -/
def fnExactIsValidDemandsSpec : ChangeSpec := { name := "fnExactIsValidDemands", fn := fun _ => fun
  | [d1, d2] => { results := [.lit (.bool true)], args := [d1, d2] }
  | _ => none }
def fnExactIsValidDemandsRow : OpenClaim := { program := "ythmmhhoaplbfgaa", sum := "58a205241467c65a2337af52af9f0e93a6a89fa296ee88abffab6e75e262a37c", func := "loop.example/g00897/laws.FnExactIsValidDemands", spec := "fnExactIsValidDemands", apart := false }
def FnExactIsValidDemandsSaid : Prop := fnExactIsValidDemandsRow.holds Try.pinned (OpenSpec.ofChange fnExactIsValidDemandsSpec)

/-- ITS FALSE NEIGHBOUR: 'it returns false'. Refute it at one input. -/
def fnExactIsValidDemandsWrong : ChangeSpec := { name := "fnExactIsValidDemands", fn := fun _ => fun
  | [d1, d2] => { results := [.lit (.bool false)], args := [d1, d2] }
  | _ => none }
def FnExactIsValidDemandsWrongFalsely : Prop := fnExactIsValidDemandsRow.holds Try.pinned (OpenSpec.ofChange fnExactIsValidDemandsWrong)

/-- 'laws.FnExactIsValidNetwork': WHATEVER THE INPUT: true; the input reads as it did. -/
def fnExactIsValidNetworkSpec : ChangeSpec := { name := "fnExactIsValidNetwork", fn := fun _ => fun
  | [d] => { results := [.lit (.bool true)], args := [d] }
  | _ => none }
def fnExactIsValidNetworkRow : OpenClaim := { program := "ythmmhhoaplbfgaa", sum := "58a205241467c65a2337af52af9f0e93a6a89fa296ee88abffab6e75e262a37c", func := "loop.example/g00897/laws.FnExactIsValidNetwork", spec := "fnExactIsValidNetwork", apart := false }
def FnExactIsValidNetworkSaid : Prop := fnExactIsValidNetworkRow.holds Try.pinned (OpenSpec.ofChange fnExactIsValidNetworkSpec)

/-- ITS FALSE NEIGHBOUR: 'it returns false'. Refute it at one input. -/
def fnExactIsValidNetworkWrong : ChangeSpec := { name := "fnExactIsValidNetwork", fn := fun _ => fun
  | [d] => { results := [.lit (.bool false)], args := [d] }
  | _ => none }
def FnExactIsValidNetworkWrongFalsely : Prop := fnExactIsValidNetworkRow.holds Try.pinned (OpenSpec.ofChange fnExactIsValidNetworkWrong)

/-- 'laws.FnExactNodeNumber': WHATEVER THE INPUT: true; the input reads as it did. -/
def fnExactNodeNumberSpec : ChangeSpec := { name := "fnExactNodeNumber", fn := fun _ => fun
  | [d1, d2] => { results := [.lit (.bool true)], args := [d1, d2] }
  | _ => none }
def fnExactNodeNumberRow : OpenClaim := { program := "ythmmhhoaplbfgaa", sum := "58a205241467c65a2337af52af9f0e93a6a89fa296ee88abffab6e75e262a37c", func := "loop.example/g00897/laws.FnExactNodeNumber", spec := "fnExactNodeNumber", apart := false }
def FnExactNodeNumberSaid : Prop := fnExactNodeNumberRow.holds Try.pinned (OpenSpec.ofChange fnExactNodeNumberSpec)

/-- ITS FALSE NEIGHBOUR: 'it returns false'. Refute it at one input. -/
def fnExactNodeNumberWrong : ChangeSpec := { name := "fnExactNodeNumber", fn := fun _ => fun
  | [d1, d2] => { results := [.lit (.bool false)], args := [d1, d2] }
  | _ => none }
def FnExactNodeNumberWrongFalsely : Prop := fnExactNodeNumberRow.holds Try.pinned (OpenSpec.ofChange fnExactNodeNumberWrong)

/-- 'laws.FnExactOtherEnd': WHATEVER THE INPUT: true; the input reads as it did. -/
def fnExactOtherEndSpec : ChangeSpec := { name := "fnExactOtherEnd", fn := fun _ => fun
  | [d1, d2, d3] => { results := [.lit (.bool true)], args := [d1, d2, d3] }
  | _ => none }
def fnExactOtherEndRow : OpenClaim := { program := "ythmmhhoaplbfgaa", sum := "58a205241467c65a2337af52af9f0e93a6a89fa296ee88abffab6e75e262a37c", func := "loop.example/g00897/laws.FnExactOtherEnd", spec := "fnExactOtherEnd", apart := false }
def FnExactOtherEndSaid : Prop := fnExactOtherEndRow.holds Try.pinned (OpenSpec.ofChange fnExactOtherEndSpec)

/-- ITS FALSE NEIGHBOUR: 'it returns false'. Refute it at one input. -/
def fnExactOtherEndWrong : ChangeSpec := { name := "fnExactOtherEnd", fn := fun _ => fun
  | [d1, d2, d3] => { results := [.lit (.bool false)], args := [d1, d2, d3] }
  | _ => none }
def FnExactOtherEndWrongFalsely : Prop := fnExactOtherEndRow.holds Try.pinned (OpenSpec.ofChange fnExactOtherEndWrong)

/-- 'laws.FnExactFibersAt': WHATEVER THE INPUT: true; the input reads as it did. -/
def fnExactFibersAtSpec : ChangeSpec := { name := "fnExactFibersAt", fn := fun _ => fun
  | [d1, d2] => { results := [.lit (.bool true)], args := [d1, d2] }
  | _ => none }
def fnExactFibersAtRow : OpenClaim := { program := "ythmmhhoaplbfgaa", sum := "58a205241467c65a2337af52af9f0e93a6a89fa296ee88abffab6e75e262a37c", func := "loop.example/g00897/laws.FnExactFibersAt", spec := "fnExactFibersAt", apart := false }
def FnExactFibersAtSaid : Prop := fnExactFibersAtRow.holds Try.pinned (OpenSpec.ofChange fnExactFibersAtSpec)

/-- ITS FALSE NEIGHBOUR: 'it returns false'. Refute it at one input. -/
def fnExactFibersAtWrong : ChangeSpec := { name := "fnExactFibersAt", fn := fun _ => fun
  | [d1, d2] => { results := [.lit (.bool false)], args := [d1, d2] }
  | _ => none }
def FnExactFibersAtWrongFalsely : Prop := fnExactFibersAtRow.holds Try.pinned (OpenSpec.ofChange fnExactFibersAtWrong)

/-- 'laws.FnExactFailingWith': WHATEVER THE INPUT: true; the input reads as it did. -/
def fnExactFailingWithSpec : ChangeSpec := { name := "fnExactFailingWith", fn := fun _ => fun
  | [d1, d2] => { results := [.lit (.bool true)], args := [d1, d2] }
  | _ => none }
def fnExactFailingWithRow : OpenClaim := { program := "ythmmhhoaplbfgaa", sum := "58a205241467c65a2337af52af9f0e93a6a89fa296ee88abffab6e75e262a37c", func := "loop.example/g00897/laws.FnExactFailingWith", spec := "fnExactFailingWith", apart := false }
def FnExactFailingWithSaid : Prop := fnExactFailingWithRow.holds Try.pinned (OpenSpec.ofChange fnExactFailingWithSpec)

/-- ITS FALSE NEIGHBOUR: 'it returns false'. Refute it at one input. -/
def fnExactFailingWithWrong : ChangeSpec := { name := "fnExactFailingWith", fn := fun _ => fun
  | [d1, d2] => { results := [.lit (.bool false)], args := [d1, d2] }
  | _ => none }
def FnExactFailingWithWrongFalsely : Prop := fnExactFailingWithRow.holds Try.pinned (OpenSpec.ofChange fnExactFailingWithWrong)

/- THE SECOND FORM. 'bulk': how many values and letters a reading holds, each counted each time it is reached (what is shared counts as often as it is met; a slice's spare places count too). A statement '..UptoSaid' is the law's where the arguments, and the package variables that the reading takes, are together of bulk at most 1048576: NARROWER than '..Said'. Prove '..Said' where nothing that the law and all that it calls make is longer than what came in: it says more and counts as full. Else prove '..UptoSaid'. A law counts once. -/
mutual
def uptoBulk {H : Type} : DataW H → Nat
  | .lit (.string bytes) => bytes.length + 1
  | .lit _ => 1
  | .nil => 1
  | .ptr d => uptoBulk d + 1
  | .slice elems spare => uptoBulkAll elems + uptoBulkAll spare + 1
  | .agg parts => uptoBulkAll parts + 1
  | .iface _ d => uptoBulk d + 1
  | .map entries => uptoBulkEntries entries + 1
  | .held _ => 1
def uptoBulkAll {H : Type} : List (DataW H) → Nat
  | [] => 0
  | d :: r => uptoBulk d + uptoBulkAll r
def uptoBulkEntries {H : Type} : List (Lit × DataW H) → Nat
  | [] => 0
  | x :: r => uptoBulkEntry x + uptoBulkEntries r
def uptoBulkEntry {H : Type} : Lit × DataW H → Nat
  | (.string bytes, d) => bytes.length + uptoBulk d + 1
  | (_, d) => uptoBulk d + 1
 end
def uptoSmall : (H : Type) → List (DataW H) → Bool := fun _ ds => decide (uptoBulkAll ds ≤ 1048576)
def OpenSpec.upto (s : _root_.Go.ChangeSpec) : _root_.Go.OpenSpec := { _root_.Go.OpenSpec.ofChange s with cond := some uptoSmall }

/-- 'laws.FnNetworks', WHERE WHAT IT READS IS OF BULK AT MOST 1048576: true; the input reads as it did. -/
def fnNetworksUptoRow : OpenClaim := { program := "ythmmhhoaplbfgaa", sum := "58a205241467c65a2337af52af9f0e93a6a89fa296ee88abffab6e75e262a37c", func := "loop.example/g00897/laws.FnNetworks", spec := "fnNetworks", apart := false, narrowed := true }
def FnNetworksUptoSaid : Prop := fnNetworksUptoRow.holds Try.pinned (OpenSpec.upto fnNetworksSpec)

/-- 'laws.FnFormats', WHERE WHAT IT READS IS OF BULK AT MOST 1048576: true; the input reads as it did. -/
def fnFormatsUptoRow : OpenClaim := { program := "ythmmhhoaplbfgaa", sum := "58a205241467c65a2337af52af9f0e93a6a89fa296ee88abffab6e75e262a37c", func := "loop.example/g00897/laws.FnFormats", spec := "fnFormats", unfollowed := true, recurses := true, apart := false, narrowed := true }
def FnFormatsUptoSaid : Prop := fnFormatsUptoRow.holds Try.pinned (OpenSpec.upto fnFormatsSpec)

/-- 'laws.FnExactIsValidFormats', WHERE WHAT IT READS IS OF BULK AT MOST 1048576: true; the input reads as it did. -/
def fnExactIsValidFormatsUptoRow : OpenClaim := { program := "ythmmhhoaplbfgaa", sum := "58a205241467c65a2337af52af9f0e93a6a89fa296ee88abffab6e75e262a37c", func := "loop.example/g00897/laws.FnExactIsValidFormats", spec := "fnExactIsValidFormats", apart := false, narrowed := true }
def FnExactIsValidFormatsUptoSaid : Prop := fnExactIsValidFormatsUptoRow.holds Try.pinned (OpenSpec.upto fnExactIsValidFormatsSpec)

/-- 'laws.FnExactFormatFor', WHERE WHAT IT READS IS OF BULK AT MOST 1048576: true; the input reads as it did. -/
def fnExactFormatForUptoRow : OpenClaim := { program := "ythmmhhoaplbfgaa", sum := "58a205241467c65a2337af52af9f0e93a6a89fa296ee88abffab6e75e262a37c", func := "loop.example/g00897/laws.FnExactFormatFor", spec := "fnExactFormatFor", unfollowed := true, recurses := true, apart := false, narrowed := true }
def FnExactFormatForUptoSaid : Prop := fnExactFormatForUptoRow.holds Try.pinned (OpenSpec.upto fnExactFormatForSpec)

/-- 'laws.FnExactSlotsFor', WHERE WHAT IT READS IS OF BULK AT MOST 1048576: true; the input reads as it did. -/
def fnExactSlotsForUptoRow : OpenClaim := { program := "ythmmhhoaplbfgaa", sum := "58a205241467c65a2337af52af9f0e93a6a89fa296ee88abffab6e75e262a37c", func := "loop.example/g00897/laws.FnExactSlotsFor", spec := "fnExactSlotsFor", unfollowed := true, recurses := true, apart := false, narrowed := true }
def FnExactSlotsForUptoSaid : Prop := fnExactSlotsForUptoRow.holds Try.pinned (OpenSpec.upto fnExactSlotsForSpec)

/-- 'laws.FnExactIsValidDemands', WHERE WHAT IT READS IS OF BULK AT MOST 1048576: true; the input reads as it did. -/
def fnExactIsValidDemandsUptoRow : OpenClaim := { program := "ythmmhhoaplbfgaa", sum := "58a205241467c65a2337af52af9f0e93a6a89fa296ee88abffab6e75e262a37c", func := "loop.example/g00897/laws.FnExactIsValidDemands", spec := "fnExactIsValidDemands", apart := false, narrowed := true }
def FnExactIsValidDemandsUptoSaid : Prop := fnExactIsValidDemandsUptoRow.holds Try.pinned (OpenSpec.upto fnExactIsValidDemandsSpec)

/-- 'laws.FnExactIsValidNetwork', WHERE WHAT IT READS IS OF BULK AT MOST 1048576: true; the input reads as it did. -/
def fnExactIsValidNetworkUptoRow : OpenClaim := { program := "ythmmhhoaplbfgaa", sum := "58a205241467c65a2337af52af9f0e93a6a89fa296ee88abffab6e75e262a37c", func := "loop.example/g00897/laws.FnExactIsValidNetwork", spec := "fnExactIsValidNetwork", apart := false, narrowed := true }
def FnExactIsValidNetworkUptoSaid : Prop := fnExactIsValidNetworkUptoRow.holds Try.pinned (OpenSpec.upto fnExactIsValidNetworkSpec)

/-- 'laws.FnExactNodeNumber', WHERE WHAT IT READS IS OF BULK AT MOST 1048576: true; the input reads as it did. -/
def fnExactNodeNumberUptoRow : OpenClaim := { program := "ythmmhhoaplbfgaa", sum := "58a205241467c65a2337af52af9f0e93a6a89fa296ee88abffab6e75e262a37c", func := "loop.example/g00897/laws.FnExactNodeNumber", spec := "fnExactNodeNumber", apart := false, narrowed := true }
def FnExactNodeNumberUptoSaid : Prop := fnExactNodeNumberUptoRow.holds Try.pinned (OpenSpec.upto fnExactNodeNumberSpec)

/-- 'laws.FnExactOtherEnd', WHERE WHAT IT READS IS OF BULK AT MOST 1048576: true; the input reads as it did. -/
def fnExactOtherEndUptoRow : OpenClaim := { program := "ythmmhhoaplbfgaa", sum := "58a205241467c65a2337af52af9f0e93a6a89fa296ee88abffab6e75e262a37c", func := "loop.example/g00897/laws.FnExactOtherEnd", spec := "fnExactOtherEnd", apart := false, narrowed := true }
def FnExactOtherEndUptoSaid : Prop := fnExactOtherEndUptoRow.holds Try.pinned (OpenSpec.upto fnExactOtherEndSpec)

/-- 'laws.FnExactFibersAt', WHERE WHAT IT READS IS OF BULK AT MOST 1048576: true; the input reads as it did. -/
def fnExactFibersAtUptoRow : OpenClaim := { program := "ythmmhhoaplbfgaa", sum := "58a205241467c65a2337af52af9f0e93a6a89fa296ee88abffab6e75e262a37c", func := "loop.example/g00897/laws.FnExactFibersAt", spec := "fnExactFibersAt", apart := false, narrowed := true }
def FnExactFibersAtUptoSaid : Prop := fnExactFibersAtUptoRow.holds Try.pinned (OpenSpec.upto fnExactFibersAtSpec)

/-- 'laws.FnExactFailingWith', WHERE WHAT IT READS IS OF BULK AT MOST 1048576: true; the input reads as it did. -/
def fnExactFailingWithUptoRow : OpenClaim := { program := "ythmmhhoaplbfgaa", sum := "58a205241467c65a2337af52af9f0e93a6a89fa296ee88abffab6e75e262a37c", func := "loop.example/g00897/laws.FnExactFailingWith", spec := "fnExactFailingWith", apart := false, narrowed := true }
def FnExactFailingWithUptoSaid : Prop := fnExactFailingWithUptoRow.holds Try.pinned (OpenSpec.upto fnExactFailingWithSpec)

end Rows
end Go.Proofs.Ythmmhhoaplbfgaa
