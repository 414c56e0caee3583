/- Closed facts of the program that go by the list of the cut's roots. No condition. -/
import Derived.Test.YtflniajjecfgeaaDoorProg
import Derived.JoinedOf
import Derived.WalkKit
namespace Go.Proofs.YtflniajjecfgeaaDoor
set_option maxRecDepth 100000
def jn_ord : List Nat := [104, 97, 114, 110, 101, 115, 115, 32, 56, 50, 49, 101, 55, 97, 54, 57, 99, 97, 55, 101, 49, 56, 56, 52, 51, 50, 48, 48, 53, 100, 99, 55, 54, 56, 52, 55, 102, 57, 53, 97, 101, 48, 99, 53, 49, 56, 55, 55, 56, 51, 56, 51, 52, 56, 53, 53, 55, 102, 56, 56, 53, 51, 102, 52, 56, 53, 102, 100, 53, 53, 99, 100, 32, 99, 117, 116, 32, 97, 116, 32, 108, 111, 111, 112, 46, 101, 120, 97, 109, 112, 108, 101, 47, 103, 48, 48, 56, 57, 55, 47, 108, 97, 119, 115, 46, 70, 110, 69, 120, 97, 99, 116, 73, 115, 67, 111, 109, 112, 97, 99, 116]
def jn_words : List (List Nat) := [[97, 116], [108, 111, 111, 112, 46, 101, 120, 97, 109, 112, 108, 101, 47, 103, 48, 48, 56, 57, 55, 47, 108, 97, 119, 115, 46, 70, 110, 69, 120, 97, 99, 116, 73, 115, 67, 111, 109, 112, 97, 99, 116]]
theorem jn_str : Tryd.prog.initOrder = String.ofList (jn_ord.map Char.ofNat) := by kernel_rfl
theorem jn_list : Tryd.prog.initOrder.toList = jn_ord.map Char.ofNat := (congrArg String.toList jn_str).trans String.toList_ofList
theorem jn_ws : behindMainWord (wordsSigns Tryd.prog.initOrder.toList) = "cut".toList :: jn_words.map (List.map Char.ofNat) := by rw [jn_list]; kernel_rfl
theorem make_cut {P : Program} {rest : List (List Char)} (h : behindMainWord (wordsSigns P.initOrder.toList) = "cut".toList :: rest) : P.make = some .cut := by
  unfold Program.make; rw [h]; rfl
theorem strip_cut (rest : List (List Char)) : stripLifts liftWords ("cut".toList :: rest) = ([], "cut".toList :: rest) := rfl
theorem lifts_cut {P : Program} {rest : List (List Char)} (h : behindMainWord (wordsSigns P.initOrder.toList) = "cut".toList :: rest) : P.liftsFinal = false := by
  unfold Program.liftsFinal Program.headLifts; rw [h, strip_cut]; rfl
theorem enter_cut {P : Program} {rest : List (List Char)} (h : behindMainWord (wordsSigns P.initOrder.toList) = "cut".toList :: rest) (h1 : P.laysLater = false) (h2 : P.bearsReflect = false) (h3 : P.doorFits [] = true) : P.mayEnter = true := by
  unfold Program.mayEnter; rw [h]; simp only [strip_cut, h1, h2, h3]; rfl
theorem jn_mk : Tryd.prog.make = some .cut := make_cut jn_ws
theorem jn_main : Tryd.prog.mainIs = some (true, "821e7a69ca7e188432005dc76847f95ae0c51877838348557f8853f485fd55cd".toList) := by unfold Program.mainIs; rw [jn_list]; kernel_rfl
theorem jn_li : Tryd.prog.liftsFinal = false := lifts_cut jn_ws
theorem jn_en : Tryd.prog.mayEnter = true := enter_cut jn_ws (by kernel_rfl) (by kernel_rfl) (by kernel_rfl)
end Go.Proofs.YtflniajjecfgeaaDoor
