/- Closed facts of the program that go by the list of the cut's roots. No condition. -/
import Derived.Test.YtnbeomnlobfpfaaDoorProg
import Derived.JoinedOf
import Derived.WalkKit
namespace Go.Proofs.YtnbeomnlobfpfaaDoor
set_option maxRecDepth 100000
def jn_ord : List Nat := [104, 97, 114, 110, 101, 115, 115, 32, 97, 53, 51, 49, 101, 97, 48, 48, 50, 52, 50, 99, 56, 56, 57, 51, 50, 56, 49, 98, 99, 97, 57, 98, 54, 57, 101, 98, 98, 50, 54, 50, 100, 99, 102, 51, 57, 99, 54, 53, 102, 54, 99, 100, 97, 51, 53, 56, 48, 54, 50, 102, 51, 52, 49, 54, 99, 52, 54, 55, 97, 101, 97, 50, 32, 99, 117, 116, 32, 97, 116, 32, 108, 111, 111, 112, 46, 101, 120, 97, 109, 112, 108, 101, 47, 103, 48, 48, 56, 57, 55, 47, 108, 97, 119, 115, 46, 70, 110, 69, 120, 97, 99, 116, 71, 114, 111, 117, 112, 67, 117, 116, 32, 108, 111, 111, 112, 46, 101, 120, 97, 109, 112, 108, 101, 47, 103, 48, 48, 56, 57, 55, 47, 108, 97, 119, 115, 46, 70, 110, 69, 120, 97, 99, 116, 76, 111, 119, 101, 115, 116, 70, 105, 114, 115, 116, 32, 108, 111, 111, 112, 46, 101, 120, 97, 109, 112, 108, 101, 47, 103, 48, 48, 56, 57, 55, 47, 108, 97, 119, 115, 46, 70, 110, 69, 120, 97, 99, 116, 70, 114, 97, 103, 109, 101, 110, 116, 97, 116, 105, 111, 110, 79, 102, 32, 108, 111, 111, 112, 46, 101, 120, 97, 109, 112, 108, 101, 47, 103, 48, 48, 56, 57, 55, 47, 108, 97, 119, 115, 46, 70, 110, 69, 120, 97, 99, 116, 76, 105, 107, 101, 108, 105, 101, 115, 116, 67, 117, 116]
def jn_words : List (List Nat) := [[97, 116], [108, 111, 111, 112, 46, 101, 120, 97, 109, 112, 108, 101, 47, 103, 48, 48, 56, 57, 55, 47, 108, 97, 119, 115, 46, 70, 110, 69, 120, 97, 99, 116, 71, 114, 111, 117, 112, 67, 117, 116], [108, 111, 111, 112, 46, 101, 120, 97, 109, 112, 108, 101, 47, 103, 48, 48, 56, 57, 55, 47, 108, 97, 119, 115, 46, 70, 110, 69, 120, 97, 99, 116, 76, 111, 119, 101, 115, 116, 70, 105, 114, 115, 116], [108, 111, 111, 112, 46, 101, 120, 97, 109, 112, 108, 101, 47, 103, 48, 48, 56, 57, 55, 47, 108, 97, 119, 115, 46, 70, 110, 69, 120, 97, 99, 116, 70, 114, 97, 103, 109, 101, 110, 116, 97, 116, 105, 111, 110, 79, 102], [108, 111, 111, 112, 46, 101, 120, 97, 109, 112, 108, 101, 47, 103, 48, 48, 56, 57, 55, 47, 108, 97, 119, 115, 46, 70, 110, 69, 120, 97, 99, 116, 76, 105, 107, 101, 108, 105, 101, 115, 116, 67, 117, 116]]
theorem jn_str : Tryd.prog.initOrder = String.ofList (jn_ord.map Char.ofNat) := by kernel_rfl
theorem jn_list : Tryd.prog.initOrder.toList = jn_ord.map Char.ofNat := (congrArg String.toList jn_str).trans String.toList_ofList
theorem jn_ws : behindMainWord (wordsSigns Tryd.prog.initOrder.toList) = "cut".toList :: jn_words.map (List.map Char.ofNat) := by rw [jn_list]; kernel_rfl
theorem make_cut {P : Program} {rest : List (List Char)} (h : behindMainWord (wordsSigns P.initOrder.toList) = "cut".toList :: rest) : P.make = some .cut := by
  unfold Program.make; rw [h]; rfl
theorem strip_cut (rest : List (List Char)) : stripLifts liftWords ("cut".toList :: rest) = ([], "cut".toList :: rest) := rfl
theorem lifts_cut {P : Program} {rest : List (List Char)} (h : behindMainWord (wordsSigns P.initOrder.toList) = "cut".toList :: rest) : P.liftsFinal = false := by
  unfold Program.liftsFinal Program.headLifts; rw [h, strip_cut]; rfl
theorem enter_cut {P : Program} {rest : List (List Char)} (h : behindMainWord (wordsSigns P.initOrder.toList) = "cut".toList :: rest) (h1 : P.laysLater = false) (h2 : P.bearsReflect = false) (h3 : P.doorFits [] = true) : P.mayEnter = true := by
  unfold Program.mayEnter; rw [h]; simp only [strip_cut, h1, h2, h3]; rfl
theorem jn_mk : Tryd.prog.make = some .cut := make_cut jn_ws
theorem jn_main : Tryd.prog.mainIs = some (true, "a531ea00242c8893281bca9b69ebb262dcf39c65f6cda358062f3416c467aea2".toList) := by unfold Program.mainIs; rw [jn_list]; kernel_rfl
theorem jn_li : Tryd.prog.liftsFinal = false := lifts_cut jn_ws
theorem jn_en : Tryd.prog.mayEnter = true := enter_cut jn_ws (by kernel_rfl) (by kernel_rfl) (by kernel_rfl)
end Go.Proofs.YtnbeomnlobfpfaaDoor
