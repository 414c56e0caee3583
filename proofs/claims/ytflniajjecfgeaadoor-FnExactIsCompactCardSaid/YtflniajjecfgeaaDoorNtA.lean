/- Networks in memory of the call's own: compared, marked, held; ints marked from any number on. No condition but those typed. -/
import Derived.Test.YtflniajjecfgeaaDoorA2
import Derived.Test.YtflniajjecfgeaaDoorGB
import Derived.Test.YtflniajjecfgeaaDoorGC
namespace Go.Proofs.YtflniajjecfgeaaDoor
open Go.ChangeShapes Go.WideShapes Go.ChangeAt Go.RowKit

def mtB (z : Nat) : ByteArray := ⟨#[UInt8.ofNat (48 + z % 10)]⟩
def mtL (z : Nat) (t : ByteArray) : ByteArray := if h : z = 0 then t else mtL (z / 10) (mtB z ++ t)
termination_by z
decreasing_by omega
theorem mtL_zero (t : ByteArray) : mtL 0 t = t := by unfold mtL; rfl
theorem mtL_step {z : Nat} (h : 0 < z) (t : ByteArray) : mtL z t = mtL (z / 10) (mtB z ++ t) := by
  rw [mtL, dif_neg (by omega)]
/-- the text of mark k. -/
def mtx (k : Nat) : ByteArray := ⟨#[109]⟩ ++ mtL k ByteArray.empty
def mtxs (m n : Nat) : List ByteArray := (List.range n).map fun i => mtx (m + i)
theorem mtxs_len (m n : Nat) : (mtxs m n).length = n := by unfold mtxs; simp
theorem mtxs_snoc (m n : Nat) : mtxs m (n + 1) = mtxs m n ++ [mtx (m + n)] := by unfold mtxs; rw [List.range_succ, List.map_append]; rfl
theorem mtxs_get {m n i : Nat} (h : i < n) : (mtxs m n)[i]? = some (mtx (m + i)) := by unfold mtxs; rw [List.getElem?_map, List.getElem?_range h]; rfl
theorem str_snoc {ss : List ByteArray} {m j : Nat} (h : j < ss.length) : ((mtxs m j ++ ss.drop j).map Value.string).set j (.string (mtx (m + j))) = (mtxs m (j + 1) ++ ss.drop (j + 1)).map Value.string := by
  rw [← List.map_set, List.set_append_right _ _ (by rw [mtxs_len]; exact Nat.le_refl _), mtxs_len, Nat.sub_self, List.drop_eq_getElem_cons h, List.set_cons_zero, mtxs_snoc, List.append_assoc]; rfl
theorem mkk_one {zs : List Int} {k m : Nat} (h : m < zs.length) : ((marks k m ++ zs.drop m).map (Value.int .i64)).set m (.int .i64 ((k + m : Nat) : Int)) = (marks k (m + 1) ++ zs.drop (m + 1)).map (Value.int .i64) := by
  rw [← List.map_set, List.set_append_right _ _ (by rw [marks_len]; exact Nat.le_refl _), marks_len, Nat.sub_self, List.drop_eq_getElem_cons h, List.set_cons_zero]
  have e : marks k (m + 1) = marks k m ++ [((k + m : Nat) : Int)] := by unfold marks; rw [List.range_succ, List.map_append]; rfl
  rw [e, List.append_assoc]; rfl
theorem mkk4 {zs : List Int} {k m : Nat} (h : m + 4 ≤ zs.length) : ((((((marks k m ++ zs.drop m).map (Value.int .i64)).set (m) (.int .i64 (((k + m : Nat) : Int)))).set (m + 1) (.int .i64 (((k + m : Nat) : Int) + 1))).set (m + 2) (.int .i64 (((k + m : Nat) : Int) + 1 + 1))).set (m + 3) (.int .i64 (((k + m : Nat) : Int) + 1 + 1 + 1))) = (marks k (m + 4) ++ zs.drop (m + 4)).map (Value.int .i64) := by
  have e1 : (((k + m : Nat) : Int) + 1) = ((k + (m + 1) : Nat) : Int) := by omega
  have e2 : (((k + (m + 1) : Nat) : Int) + 1) = ((k + (m + 2) : Nat) : Int) := by omega
  have e3 : (((k + (m + 2) : Nat) : Int) + 1) = ((k + (m + 3) : Nat) : Int) := by omega
  rw [e1, e2, e3, mkk_one (by omega), mkk_one (by omega), mkk_one (by omega), mkk_one (by omega)]
theorem eqStr_nil9 (A A' : Option Addr) (c c' : Nat) (w : World) :
    Calls Tryd.prog 30 #[.slice A 0 c, .slice A' 0 c'] w fun e w' => e = .returned (.bool true) ∧ Below w.heap.size w w' := by
  go_enter Tryd.func30, Tryd.ntmps30
  go_wp2
  go_loop [5] (fun i => i = .int .i64 0) (fun _ => 0)
  case atStart => exact rfl
  case round =>
    obtain rfl := hrel
    go_wp2
    go_ret
    exact ⟨rfl, Below.refl _ _⟩
theorem eqFib_nil9 (A A' : Option Addr) (c c' : Nat) (w : World) :
    Calls Tryd.prog 31 #[.slice A 0 c, .slice A' 0 c'] w fun e w' => e = .returned (.bool true) ∧ Below w.heap.size w w' := by
  go_enter Tryd.func31, Tryd.ntmps31
  go_wp2
  go_loop [5] (fun i => i = .int .i64 0) (fun _ => 0)
  case atStart => exact rfl
  case round =>
    obtain rfl := hrel
    go_wp2
    go_ret
    exact ⟨rfl, Below.refl _ _⟩
end Go.Proofs.YtflniajjecfgeaaDoor
