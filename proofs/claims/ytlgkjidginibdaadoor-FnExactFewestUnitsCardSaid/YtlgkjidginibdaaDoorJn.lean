/- Closed facts of the program that go by the list of the cut's roots. No condition. -/
import Derived.Test.YtlgkjidginibdaaDoorProg
import Derived.JoinedOf
import Derived.WalkKit
namespace Go.Proofs.YtlgkjidginibdaaDoor
set_option maxRecDepth 100000
def jn_ord : List Nat := [104, 97, 114, 110, 101, 115, 115, 32, 98, 55, 100, 54, 53, 48, 56, 50, 53, 52, 53, 101, 56, 101, 51, 99, 97, 99, 55, 51, 55, 48, 57, 52, 50, 49, 52, 56, 97, 52, 51, 56, 101, 98, 49, 100, 97, 51, 56, 56, 54, 53, 102, 49, 97, 97, 50, 55, 98, 97, 51, 55, 57, 100, 97, 57, 101, 98, 53, 48, 57, 56, 49, 54, 32, 99, 117, 116, 32, 97, 116, 32, 108, 111, 111, 112, 46, 101, 120, 97, 109, 112, 108, 101, 47, 103, 48, 48, 56, 57, 55, 47, 108, 97, 119, 115, 46, 70, 110, 69, 120, 97, 99, 116, 83, 101, 114, 118, 105, 99, 101, 77, 97, 115, 107, 115, 32, 108, 111, 111, 112, 46, 101, 120, 97, 109, 112, 108, 101, 47, 103, 48, 48, 56, 57, 55, 47, 108, 97, 119, 115, 46, 70, 110, 69, 120, 97, 99, 116, 83, 104, 97, 114, 101, 100, 83, 97, 118, 105, 110, 103, 32, 108, 111, 111, 112, 46, 101, 120, 97, 109, 112, 108, 101, 47, 103, 48, 48, 56, 57, 55, 47, 108, 97, 119, 115, 46, 70, 110, 69, 120, 97, 99, 116, 70, 101, 119, 101, 115, 116, 85, 110, 105, 116, 115]
def jn_words : List (List Nat) := [[97, 116], [108, 111, 111, 112, 46, 101, 120, 97, 109, 112, 108, 101, 47, 103, 48, 48, 56, 57, 55, 47, 108, 97, 119, 115, 46, 70, 110, 69, 120, 97, 99, 116, 83, 101, 114, 118, 105, 99, 101, 77, 97, 115, 107, 115], [108, 111, 111, 112, 46, 101, 120, 97, 109, 112, 108, 101, 47, 103, 48, 48, 56, 57, 55, 47, 108, 97, 119, 115, 46, 70, 110, 69, 120, 97, 99, 116, 83, 104, 97, 114, 101, 100, 83, 97, 118, 105, 110, 103], [108, 111, 111, 112, 46, 101, 120, 97, 109, 112, 108, 101, 47, 103, 48, 48, 56, 57, 55, 47, 108, 97, 119, 115, 46, 70, 110, 69, 120, 97, 99, 116, 70, 101, 119, 101, 115, 116, 85, 110, 105, 116, 115]]
theorem jn_str : Tryd.prog.initOrder = String.ofList (jn_ord.map Char.ofNat) := by kernel_rfl
theorem jn_list : Tryd.prog.initOrder.toList = jn_ord.map Char.ofNat := (congrArg String.toList jn_str).trans String.toList_ofList
theorem jn_ws : behindMainWord (wordsSigns Tryd.prog.initOrder.toList) = "cut".toList :: jn_words.map (List.map Char.ofNat) := by rw [jn_list]; kernel_rfl
theorem make_cut {P : Program} {rest : List (List Char)} (h : behindMainWord (wordsSigns P.initOrder.toList) = "cut".toList :: rest) : P.make = some .cut := by
  unfold Program.make; rw [h]; rfl
theorem strip_cut (rest : List (List Char)) : stripLifts liftWords ("cut".toList :: rest) = ([], "cut".toList :: rest) := rfl
theorem lifts_cut {P : Program} {rest : List (List Char)} (h : behindMainWord (wordsSigns P.initOrder.toList) = "cut".toList :: rest) : P.liftsFinal = false := by
  unfold Program.liftsFinal Program.headLifts; rw [h, strip_cut]; rfl
theorem enter_cut {P : Program} {rest : List (List Char)} (h : behindMainWord (wordsSigns P.initOrder.toList) = "cut".toList :: rest) (h1 : P.laysLater = false) (h2 : P.bearsReflect = false) (h3 : P.doorFits [] = true) : P.mayEnter = true := by
  unfold Program.mayEnter; rw [h]; simp only [strip_cut, h1, h2, h3]; rfl
theorem jn_mk : Tryd.prog.make = some .cut := make_cut jn_ws
theorem jn_main : Tryd.prog.mainIs = some (true, "b7d65082545e8e3cac7370942148a438eb1da38865f1aa27ba379da9eb509816".toList) := by unfold Program.mainIs; rw [jn_list]; kernel_rfl
theorem jn_li : Tryd.prog.liftsFinal = false := lifts_cut jn_ws
theorem jn_en : Tryd.prog.mayEnter = true := enter_cut jn_ws (by kernel_rfl) (by kernel_rfl) (by kernel_rfl)
end Go.Proofs.YtlgkjidginibdaaDoor
