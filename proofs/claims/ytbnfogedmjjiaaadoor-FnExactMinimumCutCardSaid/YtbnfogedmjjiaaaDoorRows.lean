/-
  NARROWER THAN 'FOR EVERY INPUT', by the rows' own cells (each row's printed sentence says how): FnExactCliqueBound: laid · FnExactOptimalityGap: laid · FnExactRouteAvailability: laid · FnExactPairAvailability: laid · FnExactConnectionAvailability: laid · FnExactNetworkAvailability: laid · FnExactGroupImportance: laid · FnExactLowestFirst: laid · FnExactLightsHit: laid · FnExactDistinguishingLight: laid · FnExactSharedFibers: laid · FnExactComponentsOf: laid · FnExactMinimumCut: laid · FnExactGroupCut: laid.
  DERIVED. THE GIVEN ROWS OF THIS SEAT. 14 by the template 'for every input the law returns true; each argument reads behind the call as it read before'; 0 by the template 'total and deterministic' (their statements: YtbnfogedmjjiaaaDoorTotals.lean).
  GIVEN WITH THE SEED: the statements are not yours to turn. If you find one false, say at which input.
  Laid BY PROGRAM, IN A SANDBOX (cutbox-rows.mjs): the forced cells as the released guide's own fill.sh prints them over the translation f79ca0357c86949c… (all of the seat's roots in one cut). By AI agents, Wed Nov 11 2026. No macro, syntax, notation, axiom, sorry.
-/
import Derived.Test.YtbnfogedmjjiaaaDoorChecked
import GoSem.Claim
import GoSem.ClaimJoined
import GoSem.ClaimMapViews
import Derived.JoinedTies
import Derived.KernelRfl
namespace Go.Proofs.YtbnfogedmjjiaaaDoor
/- THE CELL 'sum', in the pinned program and in every row, IS THE sha256 OF THE DUMP (.gsa) THAT YtbnfogedmjjiaaaDoorProg.lean LOADS. Nothing in Lean hashes anything: it is a label: what it is worth is what the hold of that sum in a sandbox is worth. -/
noncomputable def Tryd.pinned : Pinned := { name := "ytbnfogedmjjiaaadoor", sum := "f79ca0357c86949cf3cde800acc204ad6091da0c347fb9c32429f22551baa550", checked := Tryd.checked }
namespace Rows
def none {H : Type} : Left H := { results := [], args := [] }

/- WHAT THE LISTED PACKAGE-LEVEL VARIABLES READ AS WHEN THE CALL BEGINS. Each datum BY PROGRAM (the guide's laid-datum.mjs) off the statement by which the dump's own 'gosem.cut.vars' lays the variable. In a bare row this is a premise. The card (YtbnfogedmjjiaaaDoorCards.lean) ties it to the program's text. -/
def laid_math_bits_deBruijn32tab {H : Type} : DataW H := .agg [.lit (.int .u8 0), .lit (.int .u8 1), .lit (.int .u8 28), .lit (.int .u8 2), .lit (.int .u8 29), .lit (.int .u8 14), .lit (.int .u8 24), .lit (.int .u8 3), .lit (.int .u8 30), .lit (.int .u8 22), .lit (.int .u8 20), .lit (.int .u8 15), .lit (.int .u8 25), .lit (.int .u8 17), .lit (.int .u8 4), .lit (.int .u8 8), .lit (.int .u8 31), .lit (.int .u8 27), .lit (.int .u8 13), .lit (.int .u8 23), .lit (.int .u8 21), .lit (.int .u8 19), .lit (.int .u8 16), .lit (.int .u8 7), .lit (.int .u8 26), .lit (.int .u8 12), .lit (.int .u8 18), .lit (.int .u8 6), .lit (.int .u8 11), .lit (.int .u8 5), .lit (.int .u8 10), .lit (.int .u8 9)]
def laid_math_bits_deBruijn64tab {H : Type} : DataW H := .agg [.lit (.int .u8 0), .lit (.int .u8 1), .lit (.int .u8 56), .lit (.int .u8 2), .lit (.int .u8 57), .lit (.int .u8 49), .lit (.int .u8 28), .lit (.int .u8 3), .lit (.int .u8 61), .lit (.int .u8 58), .lit (.int .u8 42), .lit (.int .u8 50), .lit (.int .u8 38), .lit (.int .u8 29), .lit (.int .u8 17), .lit (.int .u8 4), .lit (.int .u8 62), .lit (.int .u8 47), .lit (.int .u8 59), .lit (.int .u8 36), .lit (.int .u8 45), .lit (.int .u8 43), .lit (.int .u8 51), .lit (.int .u8 22), .lit (.int .u8 53), .lit (.int .u8 39), .lit (.int .u8 33), .lit (.int .u8 30), .lit (.int .u8 24), .lit (.int .u8 18), .lit (.int .u8 12), .lit (.int .u8 5), .lit (.int .u8 63), .lit (.int .u8 55), .lit (.int .u8 48), .lit (.int .u8 27), .lit (.int .u8 60), .lit (.int .u8 41), .lit (.int .u8 37), .lit (.int .u8 16), .lit (.int .u8 46), .lit (.int .u8 35), .lit (.int .u8 44), .lit (.int .u8 21), .lit (.int .u8 52), .lit (.int .u8 32), .lit (.int .u8 23), .lit (.int .u8 11), .lit (.int .u8 54), .lit (.int .u8 26), .lit (.int .u8 40), .lit (.int .u8 15), .lit (.int .u8 34), .lit (.int .u8 20), .lit (.int .u8 31), .lit (.int .u8 10), .lit (.int .u8 25), .lit (.int .u8 14), .lit (.int .u8 19), .lit (.int .u8 9), .lit (.int .u8 13), .lit (.int .u8 8), .lit (.int .u8 7), .lit (.int .u8 6)]

/-- 'laws.FnExactCliqueBound': WHATEVER THE INPUT: true; the input reads as it did. -/
def fnExactCliqueBoundSpec : ChangeSpec := { name := "fnExactCliqueBound", fn := fun _ => fun
  | [d1, d2] => { results := [.lit (.bool true)], args := [d1, d2] }
  | _ => none }
def fnExactCliqueBoundRow : OpenClaim := { program := "ytbnfogedmjjiaaadoor", sum := "f79ca0357c86949cf3cde800acc204ad6091da0c347fb9c32429f22551baa550", func := "loop.example/g00897/laws.FnExactCliqueBound", spec := "fnExactCliqueBound", unfollowed := true, recurses := true, named := ["math/bits.deBruijn32tab", "math/bits.deBruijn64tab"], apart := false, laid := [("math/bits.deBruijn32tab", laid_math_bits_deBruijn32tab), ("math/bits.deBruijn64tab", laid_math_bits_deBruijn64tab)] }
def FnExactCliqueBoundSaid : Prop := fnExactCliqueBoundRow.holds Tryd.pinned (OpenSpec.ofChange fnExactCliqueBoundSpec)

/-- ITS FALSE NEIGHBOUR: 'it returns false'. Refute it at one input. -/
def fnExactCliqueBoundWrong : ChangeSpec := { name := "fnExactCliqueBound", fn := fun _ => fun
  | [d1, d2] => { results := [.lit (.bool false)], args := [d1, d2] }
  | _ => none }
def FnExactCliqueBoundWrongFalsely : Prop := fnExactCliqueBoundRow.holds Tryd.pinned (OpenSpec.ofChange fnExactCliqueBoundWrong)

/-- 'laws.FnExactOptimalityGap': WHATEVER THE INPUT: true; the input reads as it did. -/
def fnExactOptimalityGapSpec : ChangeSpec := { name := "fnExactOptimalityGap", fn := fun _ => fun
  | [d1, d2, d3] => { results := [.lit (.bool true)], args := [d1, d2, d3] }
  | _ => none }
def fnExactOptimalityGapRow : OpenClaim := { program := "ytbnfogedmjjiaaadoor", sum := "f79ca0357c86949cf3cde800acc204ad6091da0c347fb9c32429f22551baa550", func := "loop.example/g00897/laws.FnExactOptimalityGap", spec := "fnExactOptimalityGap", unfollowed := true, recurses := true, named := ["math/bits.deBruijn32tab", "math/bits.deBruijn64tab"], apart := false, laid := [("math/bits.deBruijn32tab", laid_math_bits_deBruijn32tab), ("math/bits.deBruijn64tab", laid_math_bits_deBruijn64tab)] }
def FnExactOptimalityGapSaid : Prop := fnExactOptimalityGapRow.holds Tryd.pinned (OpenSpec.ofChange fnExactOptimalityGapSpec)

/-- ITS FALSE NEIGHBOUR: 'it returns false'. Refute it at one input. -/
def fnExactOptimalityGapWrong : ChangeSpec := { name := "fnExactOptimalityGap", fn := fun _ => fun
  | [d1, d2, d3] => { results := [.lit (.bool false)], args := [d1, d2, d3] }
  | _ => none }
def FnExactOptimalityGapWrongFalsely : Prop := fnExactOptimalityGapRow.holds Tryd.pinned (OpenSpec.ofChange fnExactOptimalityGapWrong)

/-- 'laws.FnExactRouteAvailability': WHATEVER THE INPUT: true; the input reads as it did. -/
def fnExactRouteAvailabilitySpec : ChangeSpec := { name := "fnExactRouteAvailability", fn := fun _ => fun
  | [d1, d2, d3] => { results := [.lit (.bool true)], args := [d1, d2, d3] }
  | _ => none }
def fnExactRouteAvailabilityRow : OpenClaim := { program := "ytbnfogedmjjiaaadoor", sum := "f79ca0357c86949cf3cde800acc204ad6091da0c347fb9c32429f22551baa550", func := "loop.example/g00897/laws.FnExactRouteAvailability", spec := "fnExactRouteAvailability", unfollowed := true, recurses := true, named := ["math/bits.deBruijn32tab", "math/bits.deBruijn64tab"], apart := false, laid := [("math/bits.deBruijn32tab", laid_math_bits_deBruijn32tab), ("math/bits.deBruijn64tab", laid_math_bits_deBruijn64tab)] }
def FnExactRouteAvailabilitySaid : Prop := fnExactRouteAvailabilityRow.holds Tryd.pinned (OpenSpec.ofChange fnExactRouteAvailabilitySpec)

/-- ITS FALSE NEIGHBOUR: 'it returns false'. Refute it at one input. -/
def fnExactRouteAvailabilityWrong : ChangeSpec := { name := "fnExactRouteAvailability", fn := fun _ => fun
  | [d1, d2, d3] => { results := [.lit (.bool false)], args := [d1, d2, d3] }
  | _ => none }
def FnExactRouteAvailabilityWrongFalsely : Prop := fnExactRouteAvailabilityRow.holds Tryd.pinned (OpenSpec.ofChange fnExactRouteAvailabilityWrong)

/-- 'laws.FnExactPairAvailability': WHATEVER THE INPUT: true; the input reads as it did. -/
def fnExactPairAvailabilitySpec : ChangeSpec := { name := "fnExactPairAvailability", fn := fun _ => fun
  | [d1, d2, d3, d4] => { results := [.lit (.bool true)], args := [d1, d2, d3, d4] }
  | _ => none }
def fnExactPairAvailabilityRow : OpenClaim := { program := "ytbnfogedmjjiaaadoor", sum := "f79ca0357c86949cf3cde800acc204ad6091da0c347fb9c32429f22551baa550", func := "loop.example/g00897/laws.FnExactPairAvailability", spec := "fnExactPairAvailability", unfollowed := true, recurses := true, named := ["math/bits.deBruijn32tab", "math/bits.deBruijn64tab"], apart := false, laid := [("math/bits.deBruijn32tab", laid_math_bits_deBruijn32tab), ("math/bits.deBruijn64tab", laid_math_bits_deBruijn64tab)] }
def FnExactPairAvailabilitySaid : Prop := fnExactPairAvailabilityRow.holds Tryd.pinned (OpenSpec.ofChange fnExactPairAvailabilitySpec)

/-- ITS FALSE NEIGHBOUR: 'it returns false'. Refute it at one input. -/
def fnExactPairAvailabilityWrong : ChangeSpec := { name := "fnExactPairAvailability", fn := fun _ => fun
  | [d1, d2, d3, d4] => { results := [.lit (.bool false)], args := [d1, d2, d3, d4] }
  | _ => none }
def FnExactPairAvailabilityWrongFalsely : Prop := fnExactPairAvailabilityRow.holds Tryd.pinned (OpenSpec.ofChange fnExactPairAvailabilityWrong)

/-- 'laws.FnExactConnectionAvailability': WHATEVER THE INPUT: true; the input reads as it did. -/
def fnExactConnectionAvailabilitySpec : ChangeSpec := { name := "fnExactConnectionAvailability", fn := fun _ => fun
  | [d1, d2, d3, d4] => { results := [.lit (.bool true)], args := [d1, d2, d3, d4] }
  | _ => none }
def fnExactConnectionAvailabilityRow : OpenClaim := { program := "ytbnfogedmjjiaaadoor", sum := "f79ca0357c86949cf3cde800acc204ad6091da0c347fb9c32429f22551baa550", func := "loop.example/g00897/laws.FnExactConnectionAvailability", spec := "fnExactConnectionAvailability", unfollowed := true, recurses := true, named := ["math/bits.deBruijn32tab", "math/bits.deBruijn64tab"], apart := false, laid := [("math/bits.deBruijn32tab", laid_math_bits_deBruijn32tab), ("math/bits.deBruijn64tab", laid_math_bits_deBruijn64tab)] }
def FnExactConnectionAvailabilitySaid : Prop := fnExactConnectionAvailabilityRow.holds Tryd.pinned (OpenSpec.ofChange fnExactConnectionAvailabilitySpec)

/-- ITS FALSE NEIGHBOUR: 'it returns false'. Refute it at one input. -/
def fnExactConnectionAvailabilityWrong : ChangeSpec := { name := "fnExactConnectionAvailability", fn := fun _ => fun
  | [d1, d2, d3, d4] => { results := [.lit (.bool false)], args := [d1, d2, d3, d4] }
  | _ => none }
def FnExactConnectionAvailabilityWrongFalsely : Prop := fnExactConnectionAvailabilityRow.holds Tryd.pinned (OpenSpec.ofChange fnExactConnectionAvailabilityWrong)

/-- 'laws.FnExactNetworkAvailability': WHATEVER THE INPUT: true; the input reads as it did. -/
def fnExactNetworkAvailabilitySpec : ChangeSpec := { name := "fnExactNetworkAvailability", fn := fun _ => fun
  | [d1, d2] => { results := [.lit (.bool true)], args := [d1, d2] }
  | _ => none }
def fnExactNetworkAvailabilityRow : OpenClaim := { program := "ytbnfogedmjjiaaadoor", sum := "f79ca0357c86949cf3cde800acc204ad6091da0c347fb9c32429f22551baa550", func := "loop.example/g00897/laws.FnExactNetworkAvailability", spec := "fnExactNetworkAvailability", unfollowed := true, recurses := true, named := ["math/bits.deBruijn32tab", "math/bits.deBruijn64tab"], apart := false, laid := [("math/bits.deBruijn32tab", laid_math_bits_deBruijn32tab), ("math/bits.deBruijn64tab", laid_math_bits_deBruijn64tab)] }
def FnExactNetworkAvailabilitySaid : Prop := fnExactNetworkAvailabilityRow.holds Tryd.pinned (OpenSpec.ofChange fnExactNetworkAvailabilitySpec)

/-- ITS FALSE NEIGHBOUR: 'it returns false'. Refute it at one input. -/
def fnExactNetworkAvailabilityWrong : ChangeSpec := { name := "fnExactNetworkAvailability", fn := fun _ => fun
  | [d1, d2] => { results := [.lit (.bool false)], args := [d1, d2] }
  | _ => none }
def FnExactNetworkAvailabilityWrongFalsely : Prop := fnExactNetworkAvailabilityRow.holds Tryd.pinned (OpenSpec.ofChange fnExactNetworkAvailabilityWrong)

/-- 'laws.FnExactGroupImportance': WHATEVER THE INPUT: true; the input reads as it did. -/
def fnExactGroupImportanceSpec : ChangeSpec := { name := "fnExactGroupImportance", fn := fun _ => fun
  | [d1, d2, d3, d4, d5] => { results := [.lit (.bool true)], args := [d1, d2, d3, d4, d5] }
  | _ => none }
def fnExactGroupImportanceRow : OpenClaim := { program := "ytbnfogedmjjiaaadoor", sum := "f79ca0357c86949cf3cde800acc204ad6091da0c347fb9c32429f22551baa550", func := "loop.example/g00897/laws.FnExactGroupImportance", spec := "fnExactGroupImportance", unfollowed := true, recurses := true, named := ["math/bits.deBruijn32tab", "math/bits.deBruijn64tab"], apart := false, laid := [("math/bits.deBruijn32tab", laid_math_bits_deBruijn32tab), ("math/bits.deBruijn64tab", laid_math_bits_deBruijn64tab)] }
def FnExactGroupImportanceSaid : Prop := fnExactGroupImportanceRow.holds Tryd.pinned (OpenSpec.ofChange fnExactGroupImportanceSpec)

/-- ITS FALSE NEIGHBOUR: 'it returns false'. Refute it at one input. -/
def fnExactGroupImportanceWrong : ChangeSpec := { name := "fnExactGroupImportance", fn := fun _ => fun
  | [d1, d2, d3, d4, d5] => { results := [.lit (.bool false)], args := [d1, d2, d3, d4, d5] }
  | _ => none }
def FnExactGroupImportanceWrongFalsely : Prop := fnExactGroupImportanceRow.holds Tryd.pinned (OpenSpec.ofChange fnExactGroupImportanceWrong)

/-- 'laws.FnExactLowestFirst': WHATEVER THE INPUT: true; the input reads as it did. -/
def fnExactLowestFirstSpec : ChangeSpec := { name := "fnExactLowestFirst", fn := fun _ => fun
  | [d1, d2, d3] => { results := [.lit (.bool true)], args := [d1, d2, d3] }
  | _ => none }
def fnExactLowestFirstRow : OpenClaim := { program := "ytbnfogedmjjiaaadoor", sum := "f79ca0357c86949cf3cde800acc204ad6091da0c347fb9c32429f22551baa550", func := "loop.example/g00897/laws.FnExactLowestFirst", spec := "fnExactLowestFirst", named := ["math/bits.deBruijn32tab", "math/bits.deBruijn64tab"], apart := false, laid := [("math/bits.deBruijn32tab", laid_math_bits_deBruijn32tab), ("math/bits.deBruijn64tab", laid_math_bits_deBruijn64tab)] }
def FnExactLowestFirstSaid : Prop := fnExactLowestFirstRow.holds Tryd.pinned (OpenSpec.ofChange fnExactLowestFirstSpec)

/-- ITS FALSE NEIGHBOUR: 'it returns false'. Refute it at one input. -/
def fnExactLowestFirstWrong : ChangeSpec := { name := "fnExactLowestFirst", fn := fun _ => fun
  | [d1, d2, d3] => { results := [.lit (.bool false)], args := [d1, d2, d3] }
  | _ => none }
def FnExactLowestFirstWrongFalsely : Prop := fnExactLowestFirstRow.holds Tryd.pinned (OpenSpec.ofChange fnExactLowestFirstWrong)

/-- 'laws.FnExactLightsHit': WHATEVER THE INPUT: true; the input reads as it did. -/
def fnExactLightsHitSpec : ChangeSpec := { name := "fnExactLightsHit", fn := fun _ => fun
  | [d1, d2] => { results := [.lit (.bool true)], args := [d1, d2] }
  | _ => none }
def fnExactLightsHitRow : OpenClaim := { program := "ytbnfogedmjjiaaadoor", sum := "f79ca0357c86949cf3cde800acc204ad6091da0c347fb9c32429f22551baa550", func := "loop.example/g00897/laws.FnExactLightsHit", spec := "fnExactLightsHit", named := ["math/bits.deBruijn32tab", "math/bits.deBruijn64tab"], apart := false, laid := [("math/bits.deBruijn32tab", laid_math_bits_deBruijn32tab), ("math/bits.deBruijn64tab", laid_math_bits_deBruijn64tab)] }
def FnExactLightsHitSaid : Prop := fnExactLightsHitRow.holds Tryd.pinned (OpenSpec.ofChange fnExactLightsHitSpec)

/-- ITS FALSE NEIGHBOUR: 'it returns false'. Refute it at one input. -/
def fnExactLightsHitWrong : ChangeSpec := { name := "fnExactLightsHit", fn := fun _ => fun
  | [d1, d2] => { results := [.lit (.bool false)], args := [d1, d2] }
  | _ => none }
def FnExactLightsHitWrongFalsely : Prop := fnExactLightsHitRow.holds Tryd.pinned (OpenSpec.ofChange fnExactLightsHitWrong)

/-- 'laws.FnExactDistinguishingLight': WHATEVER THE INPUT: true; the input reads as it did. -/
def fnExactDistinguishingLightSpec : ChangeSpec := { name := "fnExactDistinguishingLight", fn := fun _ => fun
  | [d1, d2, d3] => { results := [.lit (.bool true)], args := [d1, d2, d3] }
  | _ => none }
def fnExactDistinguishingLightRow : OpenClaim := { program := "ytbnfogedmjjiaaadoor", sum := "f79ca0357c86949cf3cde800acc204ad6091da0c347fb9c32429f22551baa550", func := "loop.example/g00897/laws.FnExactDistinguishingLight", spec := "fnExactDistinguishingLight", named := ["math/bits.deBruijn32tab", "math/bits.deBruijn64tab"], apart := false, laid := [("math/bits.deBruijn32tab", laid_math_bits_deBruijn32tab), ("math/bits.deBruijn64tab", laid_math_bits_deBruijn64tab)] }
def FnExactDistinguishingLightSaid : Prop := fnExactDistinguishingLightRow.holds Tryd.pinned (OpenSpec.ofChange fnExactDistinguishingLightSpec)

/-- ITS FALSE NEIGHBOUR: 'it returns false'. Refute it at one input. -/
def fnExactDistinguishingLightWrong : ChangeSpec := { name := "fnExactDistinguishingLight", fn := fun _ => fun
  | [d1, d2, d3] => { results := [.lit (.bool false)], args := [d1, d2, d3] }
  | _ => none }
def FnExactDistinguishingLightWrongFalsely : Prop := fnExactDistinguishingLightRow.holds Tryd.pinned (OpenSpec.ofChange fnExactDistinguishingLightWrong)

/-- 'laws.FnExactSharedFibers': WHATEVER THE INPUT: true; the input reads as it did. -/
def fnExactSharedFibersSpec : ChangeSpec := { name := "fnExactSharedFibers", fn := fun _ => fun
  | [d1, d2, d3] => { results := [.lit (.bool true)], args := [d1, d2, d3] }
  | _ => none }
def fnExactSharedFibersRow : OpenClaim := { program := "ytbnfogedmjjiaaadoor", sum := "f79ca0357c86949cf3cde800acc204ad6091da0c347fb9c32429f22551baa550", func := "loop.example/g00897/laws.FnExactSharedFibers", spec := "fnExactSharedFibers", named := ["math/bits.deBruijn32tab", "math/bits.deBruijn64tab"], apart := false, laid := [("math/bits.deBruijn32tab", laid_math_bits_deBruijn32tab), ("math/bits.deBruijn64tab", laid_math_bits_deBruijn64tab)] }
def FnExactSharedFibersSaid : Prop := fnExactSharedFibersRow.holds Tryd.pinned (OpenSpec.ofChange fnExactSharedFibersSpec)

/-- ITS FALSE NEIGHBOUR: 'it returns false'. Refute it at one input. -/
def fnExactSharedFibersWrong : ChangeSpec := { name := "fnExactSharedFibers", fn := fun _ => fun
  | [d1, d2, d3] => { results := [.lit (.bool false)], args := [d1, d2, d3] }
  | _ => none }
def FnExactSharedFibersWrongFalsely : Prop := fnExactSharedFibersRow.holds Tryd.pinned (OpenSpec.ofChange fnExactSharedFibersWrong)

/-- 'laws.FnExactComponentsOf': WHATEVER THE INPUT: true; the input reads as it did. -/
def fnExactComponentsOfSpec : ChangeSpec := { name := "fnExactComponentsOf", fn := fun _ => fun
  | [d1, d2] => { results := [.lit (.bool true)], args := [d1, d2] }
  | _ => none }
def fnExactComponentsOfRow : OpenClaim := { program := "ytbnfogedmjjiaaadoor", sum := "f79ca0357c86949cf3cde800acc204ad6091da0c347fb9c32429f22551baa550", func := "loop.example/g00897/laws.FnExactComponentsOf", spec := "fnExactComponentsOf", named := ["math/bits.deBruijn32tab", "math/bits.deBruijn64tab"], apart := false, laid := [("math/bits.deBruijn32tab", laid_math_bits_deBruijn32tab), ("math/bits.deBruijn64tab", laid_math_bits_deBruijn64tab)] }
def FnExactComponentsOfSaid : Prop := fnExactComponentsOfRow.holds Tryd.pinned (OpenSpec.ofChange fnExactComponentsOfSpec)

/-- ITS FALSE NEIGHBOUR: 'it returns false'. Refute it at one input. -/
def fnExactComponentsOfWrong : ChangeSpec := { name := "fnExactComponentsOf", fn := fun _ => fun
  | [d1, d2] => { results := [.lit (.bool false)], args := [d1, d2] }
  | _ => none }
def FnExactComponentsOfWrongFalsely : Prop := fnExactComponentsOfRow.holds Tryd.pinned (OpenSpec.ofChange fnExactComponentsOfWrong)

/-- 'laws.FnExactMinimumCut': WHATEVER THE INPUT: true; the input reads as it did. -/
def fnExactMinimumCutSpec : ChangeSpec := { name := "fnExactMinimumCut", fn := fun _ => fun
  | [d1, d2, d3] => { results := [.lit (.bool true)], args := [d1, d2, d3] }
  | _ => none }
def fnExactMinimumCutRow : OpenClaim := { program := "ytbnfogedmjjiaaadoor", sum := "f79ca0357c86949cf3cde800acc204ad6091da0c347fb9c32429f22551baa550", func := "loop.example/g00897/laws.FnExactMinimumCut", spec := "fnExactMinimumCut", recurses := true, named := ["math/bits.deBruijn32tab", "math/bits.deBruijn64tab"], apart := false, laid := [("math/bits.deBruijn32tab", laid_math_bits_deBruijn32tab), ("math/bits.deBruijn64tab", laid_math_bits_deBruijn64tab)] }
def FnExactMinimumCutSaid : Prop := fnExactMinimumCutRow.holds Tryd.pinned (OpenSpec.ofChange fnExactMinimumCutSpec)

/-- ITS FALSE NEIGHBOUR: 'it returns false'. Refute it at one input. -/
def fnExactMinimumCutWrong : ChangeSpec := { name := "fnExactMinimumCut", fn := fun _ => fun
  | [d1, d2, d3] => { results := [.lit (.bool false)], args := [d1, d2, d3] }
  | _ => none }
def FnExactMinimumCutWrongFalsely : Prop := fnExactMinimumCutRow.holds Tryd.pinned (OpenSpec.ofChange fnExactMinimumCutWrong)

/-- 'laws.FnExactGroupCut': WHATEVER THE INPUT: true; the input reads as it did. -/
def fnExactGroupCutSpec : ChangeSpec := { name := "fnExactGroupCut", fn := fun _ => fun
  | [d1, d2, d3] => { results := [.lit (.bool true)], args := [d1, d2, d3] }
  | _ => none }
def fnExactGroupCutRow : OpenClaim := { program := "ytbnfogedmjjiaaadoor", sum := "f79ca0357c86949cf3cde800acc204ad6091da0c347fb9c32429f22551baa550", func := "loop.example/g00897/laws.FnExactGroupCut", spec := "fnExactGroupCut", recurses := true, named := ["math/bits.deBruijn32tab", "math/bits.deBruijn64tab"], apart := false, laid := [("math/bits.deBruijn32tab", laid_math_bits_deBruijn32tab), ("math/bits.deBruijn64tab", laid_math_bits_deBruijn64tab)] }
def FnExactGroupCutSaid : Prop := fnExactGroupCutRow.holds Tryd.pinned (OpenSpec.ofChange fnExactGroupCutSpec)

/-- ITS FALSE NEIGHBOUR: 'it returns false'. Refute it at one input. -/
def fnExactGroupCutWrong : ChangeSpec := { name := "fnExactGroupCut", fn := fun _ => fun
  | [d1, d2, d3] => { results := [.lit (.bool false)], args := [d1, d2, d3] }
  | _ => none }
def FnExactGroupCutWrongFalsely : Prop := fnExactGroupCutRow.holds Tryd.pinned (OpenSpec.ofChange fnExactGroupCutWrong)

/- THE SECOND FORM. 'bulk': how many values and letters a reading holds, each counted each time it is reached (what is shared counts as often as it is met; a slice's spare places count too). A statement '..UptoSaid' is the law's where the arguments, and the package variables that the reading takes, are together of bulk at most 1048576: NARROWER than '..Said'. Prove '..Said' where nothing that the law and all that it calls make is longer than what came in: it says more and counts as full. Else prove '..UptoSaid'. A law counts once. -/
mutual
def uptoBulk {H : Type} : DataW H → Nat
  | .lit (.string bytes) => bytes.length + 1
  | .lit _ => 1
  | .nil => 1
  | .ptr d => uptoBulk d + 1
  | .slice elems spare => uptoBulkAll elems + uptoBulkAll spare + 1
  | .agg parts => uptoBulkAll parts + 1
  | .iface _ d => uptoBulk d + 1
  | .map entries => uptoBulkEntries entries + 1
  | .held _ => 1
def uptoBulkAll {H : Type} : List (DataW H) → Nat
  | [] => 0
  | d :: r => uptoBulk d + uptoBulkAll r
def uptoBulkEntries {H : Type} : List (Lit × DataW H) → Nat
  | [] => 0
  | x :: r => uptoBulkEntry x + uptoBulkEntries r
def uptoBulkEntry {H : Type} : Lit × DataW H → Nat
  | (.string bytes, d) => bytes.length + uptoBulk d + 1
  | (_, d) => uptoBulk d + 1
 end
def uptoSmall : (H : Type) → List (DataW H) → Bool := fun _ ds => decide (uptoBulkAll ds ≤ 1048576)
def OpenSpec.upto (s : _root_.Go.ChangeSpec) : _root_.Go.OpenSpec := { _root_.Go.OpenSpec.ofChange s with cond := some uptoSmall }

/-- 'laws.FnExactCliqueBound', WHERE WHAT IT READS IS OF BULK AT MOST 1048576: true; the input reads as it did. -/
def fnExactCliqueBoundUptoRow : OpenClaim := { program := "ytbnfogedmjjiaaadoor", sum := "f79ca0357c86949cf3cde800acc204ad6091da0c347fb9c32429f22551baa550", func := "loop.example/g00897/laws.FnExactCliqueBound", spec := "fnExactCliqueBound", unfollowed := true, recurses := true, named := ["math/bits.deBruijn32tab", "math/bits.deBruijn64tab"], apart := false, laid := [("math/bits.deBruijn32tab", laid_math_bits_deBruijn32tab), ("math/bits.deBruijn64tab", laid_math_bits_deBruijn64tab)], narrowed := true }
def FnExactCliqueBoundUptoSaid : Prop := fnExactCliqueBoundUptoRow.holds Tryd.pinned (OpenSpec.upto fnExactCliqueBoundSpec)

/-- 'laws.FnExactOptimalityGap', WHERE WHAT IT READS IS OF BULK AT MOST 1048576: true; the input reads as it did. -/
def fnExactOptimalityGapUptoRow : OpenClaim := { program := "ytbnfogedmjjiaaadoor", sum := "f79ca0357c86949cf3cde800acc204ad6091da0c347fb9c32429f22551baa550", func := "loop.example/g00897/laws.FnExactOptimalityGap", spec := "fnExactOptimalityGap", unfollowed := true, recurses := true, named := ["math/bits.deBruijn32tab", "math/bits.deBruijn64tab"], apart := false, laid := [("math/bits.deBruijn32tab", laid_math_bits_deBruijn32tab), ("math/bits.deBruijn64tab", laid_math_bits_deBruijn64tab)], narrowed := true }
def FnExactOptimalityGapUptoSaid : Prop := fnExactOptimalityGapUptoRow.holds Tryd.pinned (OpenSpec.upto fnExactOptimalityGapSpec)

/-- 'laws.FnExactRouteAvailability', WHERE WHAT IT READS IS OF BULK AT MOST 1048576: true; the input reads as it did. -/
def fnExactRouteAvailabilityUptoRow : OpenClaim := { program := "ytbnfogedmjjiaaadoor", sum := "f79ca0357c86949cf3cde800acc204ad6091da0c347fb9c32429f22551baa550", func := "loop.example/g00897/laws.FnExactRouteAvailability", spec := "fnExactRouteAvailability", unfollowed := true, recurses := true, named := ["math/bits.deBruijn32tab", "math/bits.deBruijn64tab"], apart := false, laid := [("math/bits.deBruijn32tab", laid_math_bits_deBruijn32tab), ("math/bits.deBruijn64tab", laid_math_bits_deBruijn64tab)], narrowed := true }
def FnExactRouteAvailabilityUptoSaid : Prop := fnExactRouteAvailabilityUptoRow.holds Tryd.pinned (OpenSpec.upto fnExactRouteAvailabilitySpec)

/-- 'laws.FnExactPairAvailability', WHERE WHAT IT READS IS OF BULK AT MOST 1048576: true; the input reads as it did. -/
def fnExactPairAvailabilityUptoRow : OpenClaim := { program := "ytbnfogedmjjiaaadoor", sum := "f79ca0357c86949cf3cde800acc204ad6091da0c347fb9c32429f22551baa550", func := "loop.example/g00897/laws.FnExactPairAvailability", spec := "fnExactPairAvailability", unfollowed := true, recurses := true, named := ["math/bits.deBruijn32tab", "math/bits.deBruijn64tab"], apart := false, laid := [("math/bits.deBruijn32tab", laid_math_bits_deBruijn32tab), ("math/bits.deBruijn64tab", laid_math_bits_deBruijn64tab)], narrowed := true }
def FnExactPairAvailabilityUptoSaid : Prop := fnExactPairAvailabilityUptoRow.holds Tryd.pinned (OpenSpec.upto fnExactPairAvailabilitySpec)

/-- 'laws.FnExactConnectionAvailability', WHERE WHAT IT READS IS OF BULK AT MOST 1048576: true; the input reads as it did. -/
def fnExactConnectionAvailabilityUptoRow : OpenClaim := { program := "ytbnfogedmjjiaaadoor", sum := "f79ca0357c86949cf3cde800acc204ad6091da0c347fb9c32429f22551baa550", func := "loop.example/g00897/laws.FnExactConnectionAvailability", spec := "fnExactConnectionAvailability", unfollowed := true, recurses := true, named := ["math/bits.deBruijn32tab", "math/bits.deBruijn64tab"], apart := false, laid := [("math/bits.deBruijn32tab", laid_math_bits_deBruijn32tab), ("math/bits.deBruijn64tab", laid_math_bits_deBruijn64tab)], narrowed := true }
def FnExactConnectionAvailabilityUptoSaid : Prop := fnExactConnectionAvailabilityUptoRow.holds Tryd.pinned (OpenSpec.upto fnExactConnectionAvailabilitySpec)

/-- 'laws.FnExactNetworkAvailability', WHERE WHAT IT READS IS OF BULK AT MOST 1048576: true; the input reads as it did. -/
def fnExactNetworkAvailabilityUptoRow : OpenClaim := { program := "ytbnfogedmjjiaaadoor", sum := "f79ca0357c86949cf3cde800acc204ad6091da0c347fb9c32429f22551baa550", func := "loop.example/g00897/laws.FnExactNetworkAvailability", spec := "fnExactNetworkAvailability", unfollowed := true, recurses := true, named := ["math/bits.deBruijn32tab", "math/bits.deBruijn64tab"], apart := false, laid := [("math/bits.deBruijn32tab", laid_math_bits_deBruijn32tab), ("math/bits.deBruijn64tab", laid_math_bits_deBruijn64tab)], narrowed := true }
def FnExactNetworkAvailabilityUptoSaid : Prop := fnExactNetworkAvailabilityUptoRow.holds Tryd.pinned (OpenSpec.upto fnExactNetworkAvailabilitySpec)

/-- 'laws.FnExactGroupImportance', WHERE WHAT IT READS IS OF BULK AT MOST 1048576: true; the input reads as it did. -/
def fnExactGroupImportanceUptoRow : OpenClaim := { program := "ytbnfogedmjjiaaadoor", sum := "f79ca0357c86949cf3cde800acc204ad6091da0c347fb9c32429f22551baa550", func := "loop.example/g00897/laws.FnExactGroupImportance", spec := "fnExactGroupImportance", unfollowed := true, recurses := true, named := ["math/bits.deBruijn32tab", "math/bits.deBruijn64tab"], apart := false, laid := [("math/bits.deBruijn32tab", laid_math_bits_deBruijn32tab), ("math/bits.deBruijn64tab", laid_math_bits_deBruijn64tab)], narrowed := true }
def FnExactGroupImportanceUptoSaid : Prop := fnExactGroupImportanceUptoRow.holds Tryd.pinned (OpenSpec.upto fnExactGroupImportanceSpec)

/-- 'laws.FnExactLowestFirst', WHERE WHAT IT READS IS OF BULK AT MOST 1048576: true; the input reads as it did. -/
def fnExactLowestFirstUptoRow : OpenClaim := { program := "ytbnfogedmjjiaaadoor", sum := "f79ca0357c86949cf3cde800acc204ad6091da0c347fb9c32429f22551baa550", func := "loop.example/g00897/laws.FnExactLowestFirst", spec := "fnExactLowestFirst", named := ["math/bits.deBruijn32tab", "math/bits.deBruijn64tab"], apart := false, laid := [("math/bits.deBruijn32tab", laid_math_bits_deBruijn32tab), ("math/bits.deBruijn64tab", laid_math_bits_deBruijn64tab)], narrowed := true }
def FnExactLowestFirstUptoSaid : Prop := fnExactLowestFirstUptoRow.holds Tryd.pinned (OpenSpec.upto fnExactLowestFirstSpec)

/-- 'laws.FnExactLightsHit', WHERE WHAT IT READS IS OF BULK AT MOST 1048576: true; the input reads as it did. -/
def fnExactLightsHitUptoRow : OpenClaim := { program := "ytbnfogedmjjiaaadoor", sum := "f79ca0357c86949cf3cde800acc204ad6091da0c347fb9c32429f22551baa550", func := "loop.example/g00897/laws.FnExactLightsHit", spec := "fnExactLightsHit", named := ["math/bits.deBruijn32tab", "math/bits.deBruijn64tab"], apart := false, laid := [("math/bits.deBruijn32tab", laid_math_bits_deBruijn32tab), ("math/bits.deBruijn64tab", laid_math_bits_deBruijn64tab)], narrowed := true }
def FnExactLightsHitUptoSaid : Prop := fnExactLightsHitUptoRow.holds Tryd.pinned (OpenSpec.upto fnExactLightsHitSpec)

/-- 'laws.FnExactDistinguishingLight', WHERE WHAT IT READS IS OF BULK AT MOST 1048576: true; the input reads as it did. -/
def fnExactDistinguishingLightUptoRow : OpenClaim := { program := "ytbnfogedmjjiaaadoor", sum := "f79ca0357c86949cf3cde800acc204ad6091da0c347fb9c32429f22551baa550", func := "loop.example/g00897/laws.FnExactDistinguishingLight", spec := "fnExactDistinguishingLight", named := ["math/bits.deBruijn32tab", "math/bits.deBruijn64tab"], apart := false, laid := [("math/bits.deBruijn32tab", laid_math_bits_deBruijn32tab), ("math/bits.deBruijn64tab", laid_math_bits_deBruijn64tab)], narrowed := true }
def FnExactDistinguishingLightUptoSaid : Prop := fnExactDistinguishingLightUptoRow.holds Tryd.pinned (OpenSpec.upto fnExactDistinguishingLightSpec)

/-- 'laws.FnExactSharedFibers', WHERE WHAT IT READS IS OF BULK AT MOST 1048576: true; the input reads as it did. -/
def fnExactSharedFibersUptoRow : OpenClaim := { program := "ytbnfogedmjjiaaadoor", sum := "f79ca0357c86949cf3cde800acc204ad6091da0c347fb9c32429f22551baa550", func := "loop.example/g00897/laws.FnExactSharedFibers", spec := "fnExactSharedFibers", named := ["math/bits.deBruijn32tab", "math/bits.deBruijn64tab"], apart := false, laid := [("math/bits.deBruijn32tab", laid_math_bits_deBruijn32tab), ("math/bits.deBruijn64tab", laid_math_bits_deBruijn64tab)], narrowed := true }
def FnExactSharedFibersUptoSaid : Prop := fnExactSharedFibersUptoRow.holds Tryd.pinned (OpenSpec.upto fnExactSharedFibersSpec)

/-- 'laws.FnExactComponentsOf', WHERE WHAT IT READS IS OF BULK AT MOST 1048576: true; the input reads as it did. -/
def fnExactComponentsOfUptoRow : OpenClaim := { program := "ytbnfogedmjjiaaadoor", sum := "f79ca0357c86949cf3cde800acc204ad6091da0c347fb9c32429f22551baa550", func := "loop.example/g00897/laws.FnExactComponentsOf", spec := "fnExactComponentsOf", named := ["math/bits.deBruijn32tab", "math/bits.deBruijn64tab"], apart := false, laid := [("math/bits.deBruijn32tab", laid_math_bits_deBruijn32tab), ("math/bits.deBruijn64tab", laid_math_bits_deBruijn64tab)], narrowed := true }
def FnExactComponentsOfUptoSaid : Prop := fnExactComponentsOfUptoRow.holds Tryd.pinned (OpenSpec.upto fnExactComponentsOfSpec)

/-- 'laws.FnExactMinimumCut', WHERE WHAT IT READS IS OF BULK AT MOST 1048576: true; the input reads as it did. -/
def fnExactMinimumCutUptoRow : OpenClaim := { program := "ytbnfogedmjjiaaadoor", sum := "f79ca0357c86949cf3cde800acc204ad6091da0c347fb9c32429f22551baa550", func := "loop.example/g00897/laws.FnExactMinimumCut", spec := "fnExactMinimumCut", recurses := true, named := ["math/bits.deBruijn32tab", "math/bits.deBruijn64tab"], apart := false, laid := [("math/bits.deBruijn32tab", laid_math_bits_deBruijn32tab), ("math/bits.deBruijn64tab", laid_math_bits_deBruijn64tab)], narrowed := true }
def FnExactMinimumCutUptoSaid : Prop := fnExactMinimumCutUptoRow.holds Tryd.pinned (OpenSpec.upto fnExactMinimumCutSpec)

/-- 'laws.FnExactGroupCut', WHERE WHAT IT READS IS OF BULK AT MOST 1048576: true; the input reads as it did. -/
def fnExactGroupCutUptoRow : OpenClaim := { program := "ytbnfogedmjjiaaadoor", sum := "f79ca0357c86949cf3cde800acc204ad6091da0c347fb9c32429f22551baa550", func := "loop.example/g00897/laws.FnExactGroupCut", spec := "fnExactGroupCut", recurses := true, named := ["math/bits.deBruijn32tab", "math/bits.deBruijn64tab"], apart := false, laid := [("math/bits.deBruijn32tab", laid_math_bits_deBruijn32tab), ("math/bits.deBruijn64tab", laid_math_bits_deBruijn64tab)], narrowed := true }
def FnExactGroupCutUptoSaid : Prop := fnExactGroupCutUptoRow.holds Tryd.pinned (OpenSpec.upto fnExactGroupCutSpec)

end Rows
end Go.Proofs.YtbnfogedmjjiaaaDoor
