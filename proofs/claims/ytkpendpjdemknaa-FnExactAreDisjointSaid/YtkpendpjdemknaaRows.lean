/-
  No cell of these rows narrows 'for every input' (looked for: loops, veiled, ifaces, maps, wideKeys, modest, calm, conditions, laid).
  DERIVED. THE GIVEN ROWS OF THIS SEAT. 7 by the template 'for every input the law returns true; each argument reads behind the call as it read before'; 0 by the template 'total and deterministic' (their statements: YtkpendpjdemknaaTotals.lean).
  GIVEN WITH THE SEED: the statements are not yours to turn. If you find one false, say at which input.
  Laid BY PROGRAM, IN A SANDBOX (cutbox-rows.mjs): the forced cells as the released guide's own fill.sh prints them over the translation c5f56596c4b60350… (all of the seat's roots in one cut). By AI agents, Wed Nov 11 2026. No macro, syntax, notation, axiom, sorry.
-/
import Derived.Test.YtkpendpjdemknaaChecked
import GoSem.Claim
import GoSem.ClaimJoined
import GoSem.ClaimMapViews
import Derived.JoinedTies
import Derived.KernelRfl
namespace Go.Proofs.Ytkpendpjdemknaa
/- THE CELL 'sum', in the pinned program and in every row, IS THE sha256 OF THE DUMP (.gsa) THAT YtkpendpjdemknaaProg.lean LOADS. Nothing in Lean hashes anything: it is a label: what it is worth is what the hold of that sum in a sandbox is worth. -/
noncomputable def Try.pinned : Pinned := { name := "ytkpendpjdemknaa", sum := "c5f56596c4b60350a8e3f91a993e9c2eb5acd75649228c4cf5713cec326b2d53", checked := Try.checked }
namespace Rows
def none {H : Type} : Left H := { results := [], args := [] }

/-- 'laws.FnExactAddFiber': WHATEVER THE INPUT: true; the input reads as it did. -/
def fnExactAddFiberSpec : ChangeSpec := { name := "fnExactAddFiber", fn := fun _ => fun
  | [d1, d2] => { results := [.lit (.bool true)], args := [d1, d2] }
  | _ => none }
def fnExactAddFiberRow : OpenClaim := { program := "ytkpendpjdemknaa", sum := "c5f56596c4b60350a8e3f91a993e9c2eb5acd75649228c4cf5713cec326b2d53", func := "loop.example/g00897/laws.FnExactAddFiber", spec := "fnExactAddFiber", apart := false }
def FnExactAddFiberSaid : Prop := fnExactAddFiberRow.holds Try.pinned (OpenSpec.ofChange fnExactAddFiberSpec)

/-- ITS FALSE NEIGHBOUR: 'it returns false'. Refute it at one input. -/
def fnExactAddFiberWrong : ChangeSpec := { name := "fnExactAddFiber", fn := fun _ => fun
  | [d1, d2] => { results := [.lit (.bool false)], args := [d1, d2] }
  | _ => none }
def FnExactAddFiberWrongFalsely : Prop := fnExactAddFiberRow.holds Try.pinned (OpenSpec.ofChange fnExactAddFiberWrong)

/-- 'laws.FnExactStartRestoration': WHATEVER THE INPUT: true; the input reads as it did. -/
def fnExactStartRestorationSpec : ChangeSpec := { name := "fnExactStartRestoration", fn := fun _ => fun
  | [d] => { results := [.lit (.bool true)], args := [d] }
  | _ => none }
def fnExactStartRestorationRow : OpenClaim := { program := "ytkpendpjdemknaa", sum := "c5f56596c4b60350a8e3f91a993e9c2eb5acd75649228c4cf5713cec326b2d53", func := "loop.example/g00897/laws.FnExactStartRestoration", spec := "fnExactStartRestoration", apart := false }
def FnExactStartRestorationSaid : Prop := fnExactStartRestorationRow.holds Try.pinned (OpenSpec.ofChange fnExactStartRestorationSpec)

/-- ITS FALSE NEIGHBOUR: 'it returns false'. Refute it at one input. -/
def fnExactStartRestorationWrong : ChangeSpec := { name := "fnExactStartRestoration", fn := fun _ => fun
  | [d] => { results := [.lit (.bool false)], args := [d] }
  | _ => none }
def FnExactStartRestorationWrongFalsely : Prop := fnExactStartRestorationRow.holds Try.pinned (OpenSpec.ofChange fnExactStartRestorationWrong)

/-- 'laws.FnExactMoveLight': WHATEVER THE INPUT: true; the input reads as it did. -/
def fnExactMoveLightSpec : ChangeSpec := { name := "fnExactMoveLight", fn := fun _ => fun
  | [d1, d2, d3, d4] => { results := [.lit (.bool true)], args := [d1, d2, d3, d4] }
  | _ => none }
def fnExactMoveLightRow : OpenClaim := { program := "ytkpendpjdemknaa", sum := "c5f56596c4b60350a8e3f91a993e9c2eb5acd75649228c4cf5713cec326b2d53", func := "loop.example/g00897/laws.FnExactMoveLight", spec := "fnExactMoveLight", apart := false }
def FnExactMoveLightSaid : Prop := fnExactMoveLightRow.holds Try.pinned (OpenSpec.ofChange fnExactMoveLightSpec)

/-- ITS FALSE NEIGHBOUR: 'it returns false'. Refute it at one input. -/
def fnExactMoveLightWrong : ChangeSpec := { name := "fnExactMoveLight", fn := fun _ => fun
  | [d1, d2, d3, d4] => { results := [.lit (.bool false)], args := [d1, d2, d3, d4] }
  | _ => none }
def FnExactMoveLightWrongFalsely : Prop := fnExactMoveLightRow.holds Try.pinned (OpenSpec.ofChange fnExactMoveLightWrong)

/-- 'laws.FnExactAreCompatible': WHATEVER THE INPUT: true; the input reads as it did. -/
def fnExactAreCompatibleSpec : ChangeSpec := { name := "fnExactAreCompatible", fn := fun _ => fun
  | [d1, d2, d3] => { results := [.lit (.bool true)], args := [d1, d2, d3] }
  | _ => none }
def fnExactAreCompatibleRow : OpenClaim := { program := "ytkpendpjdemknaa", sum := "c5f56596c4b60350a8e3f91a993e9c2eb5acd75649228c4cf5713cec326b2d53", func := "loop.example/g00897/laws.FnExactAreCompatible", spec := "fnExactAreCompatible", apart := false }
def FnExactAreCompatibleSaid : Prop := fnExactAreCompatibleRow.holds Try.pinned (OpenSpec.ofChange fnExactAreCompatibleSpec)

/-- ITS FALSE NEIGHBOUR: 'it returns false'. Refute it at one input. -/
def fnExactAreCompatibleWrong : ChangeSpec := { name := "fnExactAreCompatible", fn := fun _ => fun
  | [d1, d2, d3] => { results := [.lit (.bool false)], args := [d1, d2, d3] }
  | _ => none }
def FnExactAreCompatibleWrongFalsely : Prop := fnExactAreCompatibleRow.holds Try.pinned (OpenSpec.ofChange fnExactAreCompatibleWrong)

/-- 'laws.FnExactIsValidServices': WHATEVER THE INPUT: true; the input reads as it did. -/
def fnExactIsValidServicesSpec : ChangeSpec := { name := "fnExactIsValidServices", fn := fun _ => fun
  | [d1, d2] => { results := [.lit (.bool true)], args := [d1, d2] }
  | _ => none }
def fnExactIsValidServicesRow : OpenClaim := { program := "ytkpendpjdemknaa", sum := "c5f56596c4b60350a8e3f91a993e9c2eb5acd75649228c4cf5713cec326b2d53", func := "loop.example/g00897/laws.FnExactIsValidServices", spec := "fnExactIsValidServices", apart := false }
def FnExactIsValidServicesSaid : Prop := fnExactIsValidServicesRow.holds Try.pinned (OpenSpec.ofChange fnExactIsValidServicesSpec)

/-- ITS FALSE NEIGHBOUR: 'it returns false'. Refute it at one input. -/
def fnExactIsValidServicesWrong : ChangeSpec := { name := "fnExactIsValidServices", fn := fun _ => fun
  | [d1, d2] => { results := [.lit (.bool false)], args := [d1, d2] }
  | _ => none }
def FnExactIsValidServicesWrongFalsely : Prop := fnExactIsValidServicesRow.holds Try.pinned (OpenSpec.ofChange fnExactIsValidServicesWrong)

/-- 'laws.FnExactAreDisjoint': WHATEVER THE INPUT: true; the input reads as it did. -/
def fnExactAreDisjointSpec : ChangeSpec := { name := "fnExactAreDisjoint", fn := fun _ => fun
  | [d1, d2, d3, d4] => { results := [.lit (.bool true)], args := [d1, d2, d3, d4] }
  | _ => none }
def fnExactAreDisjointRow : OpenClaim := { program := "ytkpendpjdemknaa", sum := "c5f56596c4b60350a8e3f91a993e9c2eb5acd75649228c4cf5713cec326b2d53", func := "loop.example/g00897/laws.FnExactAreDisjoint", spec := "fnExactAreDisjoint", unfollowed := true, recurses := true, apart := false }
def FnExactAreDisjointSaid : Prop := fnExactAreDisjointRow.holds Try.pinned (OpenSpec.ofChange fnExactAreDisjointSpec)

/-- ITS FALSE NEIGHBOUR: 'it returns false'. Refute it at one input. -/
def fnExactAreDisjointWrong : ChangeSpec := { name := "fnExactAreDisjoint", fn := fun _ => fun
  | [d1, d2, d3, d4] => { results := [.lit (.bool false)], args := [d1, d2, d3, d4] }
  | _ => none }
def FnExactAreDisjointWrongFalsely : Prop := fnExactAreDisjointRow.holds Try.pinned (OpenSpec.ofChange fnExactAreDisjointWrong)

/-- 'laws.FnExactDropService': WHATEVER THE INPUT: true; the input reads as it did. -/
def fnExactDropServiceSpec : ChangeSpec := { name := "fnExactDropService", fn := fun _ => fun
  | [d1, d2, d3] => { results := [.lit (.bool true)], args := [d1, d2, d3] }
  | _ => none }
def fnExactDropServiceRow : OpenClaim := { program := "ytkpendpjdemknaa", sum := "c5f56596c4b60350a8e3f91a993e9c2eb5acd75649228c4cf5713cec326b2d53", func := "loop.example/g00897/laws.FnExactDropService", spec := "fnExactDropService", unfollowed := true, recurses := true, apart := false }
def FnExactDropServiceSaid : Prop := fnExactDropServiceRow.holds Try.pinned (OpenSpec.ofChange fnExactDropServiceSpec)

/-- ITS FALSE NEIGHBOUR: 'it returns false'. Refute it at one input. -/
def fnExactDropServiceWrong : ChangeSpec := { name := "fnExactDropService", fn := fun _ => fun
  | [d1, d2, d3] => { results := [.lit (.bool false)], args := [d1, d2, d3] }
  | _ => none }
def FnExactDropServiceWrongFalsely : Prop := fnExactDropServiceRow.holds Try.pinned (OpenSpec.ofChange fnExactDropServiceWrong)

/- THE SECOND FORM. 'bulk': how many values and letters a reading holds, each counted each time it is reached (what is shared counts as often as it is met; a slice's spare places count too). A statement '..UptoSaid' is the law's where the arguments, and the package variables that the reading takes, are together of bulk at most 1048576: NARROWER than '..Said'. Prove '..Said' where nothing that the law and all that it calls make is longer than what came in: it says more and counts as full. Else prove '..UptoSaid'. A law counts once. -/
mutual
def uptoBulk {H : Type} : DataW H → Nat
  | .lit (.string bytes) => bytes.length + 1
  | .lit _ => 1
  | .nil => 1
  | .ptr d => uptoBulk d + 1
  | .slice elems spare => uptoBulkAll elems + uptoBulkAll spare + 1
  | .agg parts => uptoBulkAll parts + 1
  | .iface _ d => uptoBulk d + 1
  | .map entries => uptoBulkEntries entries + 1
  | .held _ => 1
def uptoBulkAll {H : Type} : List (DataW H) → Nat
  | [] => 0
  | d :: r => uptoBulk d + uptoBulkAll r
def uptoBulkEntries {H : Type} : List (Lit × DataW H) → Nat
  | [] => 0
  | x :: r => uptoBulkEntry x + uptoBulkEntries r
def uptoBulkEntry {H : Type} : Lit × DataW H → Nat
  | (.string bytes, d) => bytes.length + uptoBulk d + 1
  | (_, d) => uptoBulk d + 1
 end
def uptoSmall : (H : Type) → List (DataW H) → Bool := fun _ ds => decide (uptoBulkAll ds ≤ 1048576)
def OpenSpec.upto (s : _root_.Go.ChangeSpec) : _root_.Go.OpenSpec := { _root_.Go.OpenSpec.ofChange s with cond := some uptoSmall }

/-- 'laws.FnExactAddFiber', WHERE WHAT IT READS IS OF BULK AT MOST 1048576: true; the input reads as it did. -/
def fnExactAddFiberUptoRow : OpenClaim := { program := "ytkpendpjdemknaa", sum := "c5f56596c4b60350a8e3f91a993e9c2eb5acd75649228c4cf5713cec326b2d53", func := "loop.example/g00897/laws.FnExactAddFiber", spec := "fnExactAddFiber", apart := false, narrowed := true }
def FnExactAddFiberUptoSaid : Prop := fnExactAddFiberUptoRow.holds Try.pinned (OpenSpec.upto fnExactAddFiberSpec)

/-- 'laws.FnExactStartRestoration', WHERE WHAT IT READS IS OF BULK AT MOST 1048576: true; the input reads as it did. -/
def fnExactStartRestorationUptoRow : OpenClaim := { program := "ytkpendpjdemknaa", sum := "c5f56596c4b60350a8e3f91a993e9c2eb5acd75649228c4cf5713cec326b2d53", func := "loop.example/g00897/laws.FnExactStartRestoration", spec := "fnExactStartRestoration", apart := false, narrowed := true }
def FnExactStartRestorationUptoSaid : Prop := fnExactStartRestorationUptoRow.holds Try.pinned (OpenSpec.upto fnExactStartRestorationSpec)

/-- 'laws.FnExactMoveLight', WHERE WHAT IT READS IS OF BULK AT MOST 1048576: true; the input reads as it did. -/
def fnExactMoveLightUptoRow : OpenClaim := { program := "ytkpendpjdemknaa", sum := "c5f56596c4b60350a8e3f91a993e9c2eb5acd75649228c4cf5713cec326b2d53", func := "loop.example/g00897/laws.FnExactMoveLight", spec := "fnExactMoveLight", apart := false, narrowed := true }
def FnExactMoveLightUptoSaid : Prop := fnExactMoveLightUptoRow.holds Try.pinned (OpenSpec.upto fnExactMoveLightSpec)

/-- 'laws.FnExactAreCompatible', WHERE WHAT IT READS IS OF BULK AT MOST 1048576: true; the input reads as it did. -/
def fnExactAreCompatibleUptoRow : OpenClaim := { program := "ytkpendpjdemknaa", sum := "c5f56596c4b60350a8e3f91a993e9c2eb5acd75649228c4cf5713cec326b2d53", func := "loop.example/g00897/laws.FnExactAreCompatible", spec := "fnExactAreCompatible", apart := false, narrowed := true }
def FnExactAreCompatibleUptoSaid : Prop := fnExactAreCompatibleUptoRow.holds Try.pinned (OpenSpec.upto fnExactAreCompatibleSpec)

/-- 'laws.FnExactIsValidServices', WHERE WHAT IT READS IS OF BULK AT MOST 1048576: true; the input reads as it did. -/
def fnExactIsValidServicesUptoRow : OpenClaim := { program := "ytkpendpjdemknaa", sum := "c5f56596c4b60350a8e3f91a993e9c2eb5acd75649228c4cf5713cec326b2d53", func := "loop.example/g00897/laws.FnExactIsValidServices", spec := "fnExactIsValidServices", apart := false, narrowed := true }
def FnExactIsValidServicesUptoSaid : Prop := fnExactIsValidServicesUptoRow.holds Try.pinned (OpenSpec.upto fnExactIsValidServicesSpec)

/-- 'laws.FnExactAreDisjoint', WHERE WHAT IT READS IS OF BULK AT MOST 1048576: true; the input reads as it did. -/
def fnExactAreDisjointUptoRow : OpenClaim := { program := "ytkpendpjdemknaa", sum := "c5f56596c4b60350a8e3f91a993e9c2eb5acd75649228c4cf5713cec326b2d53", func := "loop.example/g00897/laws.FnExactAreDisjoint", spec := "fnExactAreDisjoint", unfollowed := true, recurses := true, apart := false, narrowed := true }
def FnExactAreDisjointUptoSaid : Prop := fnExactAreDisjointUptoRow.holds Try.pinned (OpenSpec.upto fnExactAreDisjointSpec)

/-- 'laws.FnExactDropService', WHERE WHAT IT READS IS OF BULK AT MOST 1048576: true; the input reads as it did. -/
def fnExactDropServiceUptoRow : OpenClaim := { program := "ytkpendpjdemknaa", sum := "c5f56596c4b60350a8e3f91a993e9c2eb5acd75649228c4cf5713cec326b2d53", func := "loop.example/g00897/laws.FnExactDropService", spec := "fnExactDropService", unfollowed := true, recurses := true, apart := false, narrowed := true }
def FnExactDropServiceUptoSaid : Prop := fnExactDropServiceUptoRow.holds Try.pinned (OpenSpec.upto fnExactDropServiceSpec)

end Rows
end Go.Proofs.Ytkpendpjdemknaa
