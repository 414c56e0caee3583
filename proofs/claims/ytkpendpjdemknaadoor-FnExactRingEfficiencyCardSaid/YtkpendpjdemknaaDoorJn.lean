/- Closed facts of the program that go by the list of the cut's roots. No condition. -/
import Derived.Test.YtkpendpjdemknaaDoorProg
import Derived.JoinedOf
import Derived.WalkKit
namespace Go.Proofs.YtkpendpjdemknaaDoor
set_option maxRecDepth 100000
def jn_ord : List Nat := [104, 97, 114, 110, 101, 115, 115, 32, 102, 97, 102, 100, 100, 98, 48, 55, 54, 56, 100, 102, 52, 102, 57, 97, 101, 56, 97, 102, 54, 54, 48, 99, 48, 101, 48, 102, 57, 101, 53, 48, 101, 52, 56, 101, 57, 49, 50, 100, 55, 97, 99, 57, 97, 52, 53, 99, 48, 51, 49, 53, 50, 55, 49, 98, 50, 101, 48, 56, 52, 52, 102, 52, 32, 99, 117, 116, 32, 97, 116, 32, 108, 111, 111, 112, 46, 101, 120, 97, 109, 112, 108, 101, 47, 103, 48, 48, 56, 57, 55, 47, 108, 97, 119, 115, 46, 70, 110, 69, 120, 97, 99, 116, 80, 114, 111, 116, 101, 99, 116, 101, 100, 70, 105, 98, 101, 114, 115, 32, 108, 111, 111, 112, 46, 101, 120, 97, 109, 112, 108, 101, 47, 103, 48, 48, 56, 57, 55, 47, 108, 97, 119, 115, 46, 70, 110, 69, 120, 97, 99, 116, 82, 105, 110, 103, 69, 102, 102, 105, 99, 105, 101, 110, 99, 121, 32, 108, 111, 111, 112, 46, 101, 120, 97, 109, 112, 108, 101, 47, 103, 48, 48, 56, 57, 55, 47, 108, 97, 119, 115, 46, 70, 110, 69, 120, 97, 99, 116, 82, 105, 110, 103, 67, 97, 112, 97, 99, 105, 116, 121, 32, 108, 111, 111, 112, 46, 101, 120, 97, 109, 112, 108, 101, 47, 103, 48, 48, 56, 57, 55, 47, 108, 97, 119, 115, 46, 70, 110, 69, 120, 97, 99, 116, 83, 101, 114, 118, 105, 99, 101, 77, 97, 115, 107, 115]
def jn_words : List (List Nat) := [[97, 116], [108, 111, 111, 112, 46, 101, 120, 97, 109, 112, 108, 101, 47, 103, 48, 48, 56, 57, 55, 47, 108, 97, 119, 115, 46, 70, 110, 69, 120, 97, 99, 116, 80, 114, 111, 116, 101, 99, 116, 101, 100, 70, 105, 98, 101, 114, 115], [108, 111, 111, 112, 46, 101, 120, 97, 109, 112, 108, 101, 47, 103, 48, 48, 56, 57, 55, 47, 108, 97, 119, 115, 46, 70, 110, 69, 120, 97, 99, 116, 82, 105, 110, 103, 69, 102, 102, 105, 99, 105, 101, 110, 99, 121], [108, 111, 111, 112, 46, 101, 120, 97, 109, 112, 108, 101, 47, 103, 48, 48, 56, 57, 55, 47, 108, 97, 119, 115, 46, 70, 110, 69, 120, 97, 99, 116, 82, 105, 110, 103, 67, 97, 112, 97, 99, 105, 116, 121], [108, 111, 111, 112, 46, 101, 120, 97, 109, 112, 108, 101, 47, 103, 48, 48, 56, 57, 55, 47, 108, 97, 119, 115, 46, 70, 110, 69, 120, 97, 99, 116, 83, 101, 114, 118, 105, 99, 101, 77, 97, 115, 107, 115]]
theorem jn_str : Tryd.prog.initOrder = String.ofList (jn_ord.map Char.ofNat) := by kernel_rfl
theorem jn_list : Tryd.prog.initOrder.toList = jn_ord.map Char.ofNat := (congrArg String.toList jn_str).trans String.toList_ofList
theorem jn_ws : behindMainWord (wordsSigns Tryd.prog.initOrder.toList) = "cut".toList :: jn_words.map (List.map Char.ofNat) := by rw [jn_list]; kernel_rfl
theorem make_cut {P : Program} {rest : List (List Char)} (h : behindMainWord (wordsSigns P.initOrder.toList) = "cut".toList :: rest) : P.make = some .cut := by
  unfold Program.make; rw [h]; rfl
theorem strip_cut (rest : List (List Char)) : stripLifts liftWords ("cut".toList :: rest) = ([], "cut".toList :: rest) := rfl
theorem lifts_cut {P : Program} {rest : List (List Char)} (h : behindMainWord (wordsSigns P.initOrder.toList) = "cut".toList :: rest) : P.liftsFinal = false := by
  unfold Program.liftsFinal Program.headLifts; rw [h, strip_cut]; rfl
theorem enter_cut {P : Program} {rest : List (List Char)} (h : behindMainWord (wordsSigns P.initOrder.toList) = "cut".toList :: rest) (h1 : P.laysLater = false) (h2 : P.bearsReflect = false) (h3 : P.doorFits [] = true) : P.mayEnter = true := by
  unfold Program.mayEnter; rw [h]; simp only [strip_cut, h1, h2, h3]; rfl
theorem jn_mk : Tryd.prog.make = some .cut := make_cut jn_ws
theorem jn_main : Tryd.prog.mainIs = some (true, "fafddb0768df4f9ae8af660c0e0f9e50e48e912d7ac9a45c0315271b2e0844f4".toList) := by unfold Program.mainIs; rw [jn_list]; kernel_rfl
theorem jn_li : Tryd.prog.liftsFinal = false := lifts_cut jn_ws
theorem jn_en : Tryd.prog.mayEnter = true := enter_cut jn_ws (by kernel_rfl) (by kernel_rfl) (by kernel_rfl)
end Go.Proofs.YtkpendpjdemknaaDoor
