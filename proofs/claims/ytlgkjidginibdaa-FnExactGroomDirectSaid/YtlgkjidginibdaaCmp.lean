/- Routes compared: the words that both sides share, and the contract of spec.CompareRoutes. No condition but those typed. -/
import Derived.Test.YtlgkjidginibdaaGB
namespace Go.Proofs.Ytlgkjidginibdaa
open Go.ChangeShapes Go.WideShapes Go.ChangeAt Go.RowKit

def cmpI (a b : Int) : Int := if a < b then -1 else if b < a then 1 else 0
def orI (a b : Int) : Int := if a = 0 then b else a
theorem cmp_lt {a b : Int} (h : a < b) : cmpI a b = -1 := if_pos h
theorem cmp_gt {a b : Int} (h : b < a) : cmpI a b = 1 := by unfold cmpI; rw [if_neg (by omega), if_pos h]
theorem cmp_eq (a : Int) : cmpI a a = 0 := by unfold cmpI; rw [if_neg (by omega), if_neg (by omega)]
theorem cmp_sub (a b : Int) : cmpI (a - b) 0 = cmpI a b := by
  rcases Int.lt_trichotomy a b with h | h | h
  · rw [cmp_lt h, cmp_lt (by omega)]
  · subst h; rw [cmp_eq, Int.sub_self, cmp_eq]
  · rw [cmp_gt h, cmp_gt (by omega)]
theorem cmp_ne {a b : Int} (h : a ≠ b) : cmpI a b ≠ 0 := by
  rcases Int.lt_trichotomy a b with h1 | h1 | h1
  · rw [cmp_lt h1]; decide
  · exact absurd h1 h
  · rw [cmp_gt h1]; decide
theorem or_ne {a b : Int} (h : a ≠ 0) : orI a b = a := if_neg h
theorem or_eq {b : Int} : orI 0 b = b := if_pos rfl
/-- two lists compared by the first place where they differ. -/
def lexF : List Int → List Int → Int
  | x :: xs, y :: ys => orI (cmpI x y) (lexF xs ys)
  | _, _ => 0
theorem lex_at : ∀ {xs ys : List Int} {k : Nat} {a b : Int}, (∀ j, j < k → xs.getD j 0 = ys.getD j 0) → k < xs.length → k < ys.length → xs.getD k 0 = a → ys.getD k 0 = b → a ≠ b → lexF xs ys = cmpI a b
  | x :: xs, y :: ys, 0, a, b, _, _, _, e1, e2, hne => by
    have e1' : x = a := e1
    have e2' : y = b := e2
    subst e1' e2'
    exact or_ne (cmp_ne hne)
  | x :: xs, y :: ys, k + 1, a, b, h, h1, h2, e1, e2, hne => by
    have h0 : x = y := h 0 (by omega)
    subst h0
    rw [lexF, cmp_eq, or_eq]
    exact lex_at (k := k) (fun j hj => h (j + 1) (by omega)) (by simpa using h1) (by simpa using h2) e1 e2 hne
  | [], _, _, _, _, _, h1, _, _, _, _ => absurd h1 (by simp)
  | _ :: _, [], _, _, _, _, _, h2, _, _, _ => absurd h2 (by simp)
theorem lex_all : ∀ {xs ys : List Int}, (∀ j, j < xs.length → xs.getD j 0 = ys.getD j 0) → xs.length = ys.length → lexF xs ys = 0
  | [], _, _, _ => by unfold lexF; rfl
  | x :: xs, [], _, hl => by simp at hl
  | x :: xs, y :: ys, h, hl => by
    have h0 : x = y := h 0 (by simp)
    subst h0
    rw [lexF, cmp_eq, or_eq]
    exact lex_all (fun j hj => h (j + 1) (by simp; omega)) (by simpa using hl)
noncomputable def crI (fs : List Q4) (st : Int) (xs : List Int) (st' : Int) (ys : List Int) : Int := orI (cmpI (lenX fs xs) (lenX fs ys)) (orI (cmpI (xs.length : Int) (ys.length : Int)) (orI (lexF xs ys) (cmpI st st')))
noncomputable def crB (ss : List ByteArray) (fs : List Q4) (st : Int) (xs : List Int) (st' : Int) (ys : List Int) : Bool := routeB ss fs st xs && routeB ss fs st' ys
noncomputable def crV (ss : List ByteArray) (fs : List Q4) (st : Int) (xs : List Int) (st' : Int) (ys : List Int) : Int := if crB ss fs st xs st' ys then crI fs st xs st' ys else 0
noncomputable def crR (ss : List ByteArray) (fs : List Q4) (st : Int) (xs : List Int) (st' : Int) (ys : List Int) : Value := .tuple #[.int .i64 (crV ss fs st xs st' ys), .bool (crB ss fs st xs st' ys)]
theorem cr_no {ss : List ByteArray} {fs : List Q4} {st st' : Int} {xs ys : List Int} (h : crB ss fs st xs st' ys = false) : (.tuple #[.int .i64 0, .bool false] : Value) = crR ss fs st xs st' ys := by unfold crR crV; rw [h]; rfl
theorem cr_yes {ss : List ByteArray} {fs : List Q4} {st st' : Int} {xs ys : List Int} (h : crB ss fs st xs st' ys = true) : (.tuple #[.int .i64 (crI fs st xs st' ys), .bool true] : Value) = crR ss fs st xs st' ys := by unfold crR crV; rw [h]; rfl
theorem ret_tupC {a b : Value} (h : a = b) : Ending.returned a = .returned b := by rw [h]

end Go.Proofs.Ytlgkjidginibdaa
