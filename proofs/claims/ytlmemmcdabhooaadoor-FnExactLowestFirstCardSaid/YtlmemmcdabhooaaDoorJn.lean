/- Closed facts of the program that go by the list of the cut's roots. No condition. -/
import Derived.Test.YtlmemmcdabhooaaDoorProg
import Derived.JoinedOf
import Derived.WalkKit
namespace Go.Proofs.YtlmemmcdabhooaaDoor
set_option maxRecDepth 100000
def jn_ord : List Nat := [104, 97, 114, 110, 101, 115, 115, 32, 50, 51, 56, 49, 100, 49, 52, 56, 56, 54, 53, 51, 48, 53, 57, 100, 97, 102, 53, 99, 48, 49, 50, 52, 98, 56, 55, 54, 102, 51, 54, 51, 97, 50, 102, 101, 100, 100, 57, 48, 54, 54, 56, 100, 52, 51, 98, 54, 101, 54, 55, 99, 49, 53, 99, 102, 102, 54, 100, 101, 53, 55, 52, 101, 32, 99, 117, 116, 32, 97, 116, 32, 108, 111, 111, 112, 46, 101, 120, 97, 109, 112, 108, 101, 47, 103, 48, 48, 56, 57, 55, 47, 108, 97, 119, 115, 46, 70, 110, 69, 120, 97, 99, 116, 76, 111, 119, 101, 115, 116, 70, 105, 114, 115, 116, 32, 108, 111, 111, 112, 46, 101, 120, 97, 109, 112, 108, 101, 47, 103, 48, 48, 56, 57, 55, 47, 108, 97, 119, 115, 46, 70, 110, 69, 120, 97, 99, 116, 70, 111, 114, 109, 97, 116, 82, 111, 117, 116, 101]
def jn_words : List (List Nat) := [[97, 116], [108, 111, 111, 112, 46, 101, 120, 97, 109, 112, 108, 101, 47, 103, 48, 48, 56, 57, 55, 47, 108, 97, 119, 115, 46, 70, 110, 69, 120, 97, 99, 116, 76, 111, 119, 101, 115, 116, 70, 105, 114, 115, 116], [108, 111, 111, 112, 46, 101, 120, 97, 109, 112, 108, 101, 47, 103, 48, 48, 56, 57, 55, 47, 108, 97, 119, 115, 46, 70, 110, 69, 120, 97, 99, 116, 70, 111, 114, 109, 97, 116, 82, 111, 117, 116, 101]]
theorem jn_str : Tryd.prog.initOrder = String.ofList (jn_ord.map Char.ofNat) := by kernel_rfl
theorem jn_list : Tryd.prog.initOrder.toList = jn_ord.map Char.ofNat := (congrArg String.toList jn_str).trans String.toList_ofList
theorem jn_ws : behindMainWord (wordsSigns Tryd.prog.initOrder.toList) = "cut".toList :: jn_words.map (List.map Char.ofNat) := by rw [jn_list]; kernel_rfl
theorem make_cut {P : Program} {rest : List (List Char)} (h : behindMainWord (wordsSigns P.initOrder.toList) = "cut".toList :: rest) : P.make = some .cut := by
  unfold Program.make; rw [h]; rfl
theorem strip_cut (rest : List (List Char)) : stripLifts liftWords ("cut".toList :: rest) = ([], "cut".toList :: rest) := rfl
theorem lifts_cut {P : Program} {rest : List (List Char)} (h : behindMainWord (wordsSigns P.initOrder.toList) = "cut".toList :: rest) : P.liftsFinal = false := by
  unfold Program.liftsFinal Program.headLifts; rw [h, strip_cut]; rfl
theorem enter_cut {P : Program} {rest : List (List Char)} (h : behindMainWord (wordsSigns P.initOrder.toList) = "cut".toList :: rest) (h1 : P.laysLater = false) (h2 : P.bearsReflect = false) (h3 : P.doorFits [] = true) : P.mayEnter = true := by
  unfold Program.mayEnter; rw [h]; simp only [strip_cut, h1, h2, h3]; rfl
theorem jn_mk : Tryd.prog.make = some .cut := make_cut jn_ws
theorem jn_main : Tryd.prog.mainIs = some (true, "2381d1488653059daf5c0124b876f363a2fedd90668d43b6e67c15cff6de574e".toList) := by unfold Program.mainIs; rw [jn_list]; kernel_rfl
theorem jn_li : Tryd.prog.liftsFinal = false := lifts_cut jn_ws
theorem jn_en : Tryd.prog.mayEnter = true := enter_cut jn_ws (by kernel_rfl) (by kernel_rfl) (by kernel_rfl)
end Go.Proofs.YtlmemmcdabhooaaDoor
