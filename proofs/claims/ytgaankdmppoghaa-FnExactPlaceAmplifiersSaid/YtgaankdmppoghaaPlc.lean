/- Pure: where amplifiers are placed. No condition but those typed. -/
import Derived.Test.YtgaankdmppoghaaLevM
import Derived.Test.YtgaankdmppoghaaApd
namespace Go.Proofs.Ytgaankdmppoghaa
open Go.ChangeShapes Go.WideShapes Go.ChangeAt Go.RowKit

def lossAt (qs : List Q3) (k : Nat) : Int := lossI (qs.getD k spz)
/-- behind k spans: the level, the amplifiers placed. -/
def plS (qs : List Q3) (a : Q4) (l s : Int) : Nat → Int × List Q4
  | 0 => (l, [])
  | k + 1 =>
    let x := (plS qs a l s k).1 - lossAt qs k
    if k + 1 < qs.length ∧ x - lossAt qs (k + 1) < s then (raiseI a x, (plS qs a l s k).2 ++ [⟨(k : Int), a.b, a.c, a.d⟩]) else (x, (plS qs a l s k).2)
/-- the level right behind the k-th span. -/
def plX (qs : List Q3) (a : Q4) (l s : Int) (k : Nat) : Int := (plS qs a l s k).1 - lossAt qs k
theorem pl_put {qs : List Q3} {a : Q4} {l s x : Int} {k : Nat} {am : List Q4} (h : plX qs a l s k = x) (hl : (plS qs a l s k).2 = am) (h1 : k + 1 < qs.length) (h2 : x - lossAt qs (k + 1) < s) : plS qs a l s (k + 1) = (raiseI a x, am ++ [⟨(k : Int), a.b, a.c, a.d⟩]) := by
  show (if k + 1 < qs.length ∧ (plS qs a l s k).1 - lossAt qs k - lossAt qs (k + 1) < s then _ else _) = _
  have h' : (plS qs a l s k).1 - lossAt qs k = x := h
  rw [h', hl, if_pos ⟨h1, h2⟩]
theorem pl_not {qs : List Q3} {a : Q4} {l s x : Int} {k : Nat} {am : List Q4} (h : plX qs a l s k = x) (hl : (plS qs a l s k).2 = am) (hn : ¬ (k + 1 < qs.length ∧ x - lossAt qs (k + 1) < s)) : plS qs a l s (k + 1) = (x, am) := by
  show (if k + 1 < qs.length ∧ (plS qs a l s k).1 - lossAt qs k - lossAt qs (k + 1) < s then _ else _) = _
  have h' : (plS qs a l s k).1 - lossAt qs k = x := h
  rw [h', hl, if_neg hn]
theorem pl_len (qs : List Q3) (a : Q4) (l s : Int) : ∀ k, (plS qs a l s k).2.length ≤ k
  | 0 => Nat.zero_le _
  | k + 1 => by
    have ih := pl_len qs a l s k
    show (if k + 1 < qs.length ∧ (plS qs a l s k).1 - lossAt qs k - lossAt qs (k + 1) < s then _ else _ : Int × List Q4).2.length ≤ k + 1
    split
    · simp only [List.length_append, List.length_singleton]; omega
    · simp only; omega
def plArg (qs : List Q3) (a : Q4) (l s : Int) : Bool := lineB qs && kindB a && levB l && levB s
def plB (qs : List Q3) (a : Q4) (l s : Int) : Bool := plArg qs a l s && (List.range qs.length).all (fun k => decide (s ≤ plX qs a l s k))
def plL (qs : List Q3) (a : Q4) (l s : Int) : List Q4 := if plB qs a l s then (plS qs a l s qs.length).2 else []
theorem pl_arg {qs : List Q3} {a : Q4} {l s : Int} (h : plArg qs a l s = false) : plB qs a l s = false := by unfold plB; rw [h]; rfl
theorem pl_no {qs : List Q3} {a : Q4} {l s : Int} {k : Nat} (hk : k < qs.length) (h : plX qs a l s k < s) : plB qs a l s = false := by
  cases hb : plB qs a l s with
  | false => rfl
  | true =>
    unfold plB at hb
    simp only [Bool.and_eq_true, List.all_eq_true, List.mem_range, decide_eq_true_eq] at hb
    have := hb.2 k hk
    omega
theorem pl_yes {qs : List Q3} {a : Q4} {l s : Int} (h : plArg qs a l s = true) (h2 : ∀ k, k < qs.length → s ≤ plX qs a l s k) : plB qs a l s = true := by
  unfold plB; rw [h]; simp only [Bool.true_and, List.all_eq_true, List.mem_range, decide_eq_true_eq]; exact h2
theorem pl_parts {qs : List Q3} {a : Q4} {l s : Int} {r1 r2 r3 r4 : Bool} (h1 : lineB qs = r1) (h2 : kindB a = r2) (h3 : levB l = r3) (h4 : levB s = r4) : plArg qs a l s = (r1 && r2 && r3 && r4) := by unfold plArg; rw [h1, h2, h3, h4]
theorem plL_len (qs : List Q3) (a : Q4) (l s : Int) : (plL qs a l s).length ≤ 12 := by
  cases h : plB qs a l s with
  | false => unfold plL; rw [h]; simp
  | true =>
    unfold plL; rw [h]; simp only [if_true]
    have h1 := pl_len qs a l s qs.length
    unfold plB plArg at h
    simp only [Bool.and_eq_true] at h
    have := (lineB_true h.1.1.1.1).1.2
    omega
/-- the last decision is none: the list behind all spans is that behind all but one. -/
theorem pl_last {qs : List Q3} {a : Q4} {l s : Int} {k : Nat} (hk : k + 1 = qs.length) : (plS qs a l s (k + 1)).2 = (plS qs a l s k).2 := by
  show (if k + 1 < qs.length ∧ (plS qs a l s k).1 - lossAt qs k - lossAt qs (k + 1) < s then _ else _ : Int × List Q4).2 = _
  rw [if_neg (by omega)]
theorem raise_le {a : Q4} {x : Int} (h : kindB a = true) (h1 : -10000 ≤ x) (h2 : x ≤ 10000) : -10000 ≤ raiseI a x ∧ raiseI a x ≤ 10000 := raise_bd h h1 h2
def PlAns (qs : List Q3) (a : Q4) (l s : Int) (w : World) : Ending → World → Prop :=
  Ans1 57 4 ((plL qs a l s).flatMap Q4.cells) (plL qs a l s).length (fun v => .tuple #[v, .bool (plB qs a l s)]) w
theorem plAns_no {qs : List Q3} {a : Q4} {l s : Int} {w w' : World} {A : Option Addr} {c : Nat} (h : plB qs a l s = false) (ho : w'.ownsRow w.heap.size 57 4 (.slice A 0 c) 0 []) (hb : Below w.heap.size w w') : PlAns qs a l s w (.returned (.tuple #[.slice A 0 c, .bool false])) w' := by
  unfold PlAns plL
  rw [h]
  exact ⟨A, c, rfl, ho, hb⟩
theorem plAns_yes {qs : List Q3} {a : Q4} {l s : Int} {w w' : World} {A : Option Addr} {c n N : Nat} {am : List Q4} (h : plB qs a l s = true) (hn : qs.length = n) (hm : (plS qs a l s n).2 = am) (hN : N = am.length) (ho : w'.ownsRow w.heap.size 57 4 (.slice A N c) N (am.flatMap Q4.cells)) (hb : Below w.heap.size w w') : PlAns qs a l s w (.returned (.tuple #[.slice A N c, .bool true])) w' := by
  unfold PlAns plL
  rw [h, hn, hm]
  simp only [if_true]
  rw [← hN]
  exact ⟨A, c, rfl, ho, hb⟩
theorem news4 {w : World} {b : Nat} {u0 u1 u2 u3 : Value} (h0 : w.cell? ⟨b, 0, none⟩ = some u0) (h1 : w.cell? ⟨b, 1, none⟩ = some u1) (h2 : w.cell? ⟨b, 2, none⟩ = some u2) (h3 : w.cell? ⟨b, 3, none⟩ = some u3) : ∀ (j : Nat) (u : Value), [u0, u1, u2, u3][j]? = some u → w.cell? ⟨b, j, none⟩ = some u := by
  intro j u hu
  match j, hu with
  | 0, hu => simp at hu; subst hu; exact h0
  | 1, hu => simp at hu; subst hu; exact h1
  | 2, hu => simp at hu; subst hu; exact h2
  | 3, hu => simp at hu; subst hu; exact h3
theorem news4_int (a b c d : Int) : ∀ u ∈ [Value.int .i64 a, .int .i64 b, .int .i64 c, .int .i64 d], u.oneCell' = true := by
  intro u hu; simp at hu; rcases hu with rfl | rfl | rfl | rfl <;> rfl
theorem cells_snoc (am : List Q4) (a b c d : Int) : am.flatMap Q4.cells ++ [.int .i64 a, .int .i64 b, .int .i64 c, .int .i64 d] = (am ++ [(⟨a, b, c, d⟩ : Q4)]).flatMap Q4.cells := by
  rw [List.flatMap_append]; rfl
end Go.Proofs.Ytgaankdmppoghaa
