/- Closed facts of the program that go by the list of the cut's roots. No condition. -/
import Derived.Test.YtflniajjecfgeaaGreatDoorProg
import Derived.JoinedOf
import Derived.WalkKit
namespace Go.Proofs.YtflniajjecfgeaaGreatDoor
set_option maxRecDepth 100000
def jn_ord : List Nat := [104, 97, 114, 110, 101, 115, 115, 32, 99, 98, 98, 101, 97, 48, 99, 55, 57, 55, 100, 54, 48, 55, 53, 100, 50, 97, 49, 51, 99, 100, 49, 102, 100, 54, 53, 48, 57, 101, 98, 54, 52, 100, 49, 56, 51, 49, 99, 101, 55, 102, 51, 102, 99, 49, 49, 49, 55, 101, 100, 99, 102, 101, 55, 51, 48, 56, 100, 57, 49, 54, 98, 55, 32, 99, 117, 116, 32, 97, 116, 32, 108, 111, 111, 112, 46, 101, 120, 97, 109, 112, 108, 101, 47, 103, 48, 48, 56, 57, 55, 47, 108, 97, 119, 115, 46, 70, 110, 69, 120, 97, 99, 116, 68, 101, 102, 114, 97, 103, 83, 116, 101, 112, 32, 108, 111, 111, 112, 46, 101, 120, 97, 109, 112, 108, 101, 47, 103, 48, 48, 56, 57, 55, 47, 108, 97, 119, 115, 46, 70, 110, 69, 120, 97, 99, 116, 68, 101, 102, 114, 97, 103, 109, 101, 110, 116, 32, 108, 111, 111, 112, 46, 101, 120, 97, 109, 112, 108, 101, 47, 103, 48, 48, 56, 57, 55, 47, 108, 97, 119, 115, 46, 70, 110, 69, 120, 97, 99, 116, 65, 112, 112, 108, 121, 65, 99, 116, 105, 111, 110]
def jn_words : List (List Nat) := [[97, 116], [108, 111, 111, 112, 46, 101, 120, 97, 109, 112, 108, 101, 47, 103, 48, 48, 56, 57, 55, 47, 108, 97, 119, 115, 46, 70, 110, 69, 120, 97, 99, 116, 68, 101, 102, 114, 97, 103, 83, 116, 101, 112], [108, 111, 111, 112, 46, 101, 120, 97, 109, 112, 108, 101, 47, 103, 48, 48, 56, 57, 55, 47, 108, 97, 119, 115, 46, 70, 110, 69, 120, 97, 99, 116, 68, 101, 102, 114, 97, 103, 109, 101, 110, 116], [108, 111, 111, 112, 46, 101, 120, 97, 109, 112, 108, 101, 47, 103, 48, 48, 56, 57, 55, 47, 108, 97, 119, 115, 46, 70, 110, 69, 120, 97, 99, 116, 65, 112, 112, 108, 121, 65, 99, 116, 105, 111, 110]]
theorem jn_str : Tryz.prog.initOrder = String.ofList (jn_ord.map Char.ofNat) := by kernel_rfl
theorem jn_list : Tryz.prog.initOrder.toList = jn_ord.map Char.ofNat := (congrArg String.toList jn_str).trans String.toList_ofList
theorem jn_ws : behindMainWord (wordsSigns Tryz.prog.initOrder.toList) = "cut".toList :: jn_words.map (List.map Char.ofNat) := by rw [jn_list]; kernel_rfl
theorem make_cut {P : Program} {rest : List (List Char)} (h : behindMainWord (wordsSigns P.initOrder.toList) = "cut".toList :: rest) : P.make = some .cut := by
  unfold Program.make; rw [h]; rfl
theorem strip_cut (rest : List (List Char)) : stripLifts liftWords ("cut".toList :: rest) = ([], "cut".toList :: rest) := rfl
theorem lifts_cut {P : Program} {rest : List (List Char)} (h : behindMainWord (wordsSigns P.initOrder.toList) = "cut".toList :: rest) : P.liftsFinal = false := by
  unfold Program.liftsFinal Program.headLifts; rw [h, strip_cut]; rfl
theorem enter_cut {P : Program} {rest : List (List Char)} (h : behindMainWord (wordsSigns P.initOrder.toList) = "cut".toList :: rest) (h1 : P.laysLater = false) (h2 : P.bearsReflect = false) (h3 : P.doorFits [] = true) : P.mayEnter = true := by
  unfold Program.mayEnter; rw [h]; simp only [strip_cut, h1, h2, h3]; rfl
theorem jn_mk : Tryz.prog.make = some .cut := make_cut jn_ws
theorem jn_main : Tryz.prog.mainIs = some (true, "cbbea0c797d6075d2a13cd1fd6509eb64d1831ce7f3fc1117edcfe7308d916b7".toList) := by unfold Program.mainIs; rw [jn_list]; kernel_rfl
theorem jn_li : Tryz.prog.liftsFinal = false := lifts_cut jn_ws
theorem jn_en : Tryz.prog.mayEnter = true := enter_cut jn_ws (by kernel_rfl) (by kernel_rfl) (by kernel_rfl)
end Go.Proofs.YtflniajjecfgeaaGreatDoor
