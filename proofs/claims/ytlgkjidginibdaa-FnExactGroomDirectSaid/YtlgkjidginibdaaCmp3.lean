/- Routes compared: contracts of the implementation. No condition but those typed. -/
import Derived.Test.YtlgkjidginibdaaCmp2
import Derived.Test.YtlgkjidginibdaaGB
import Derived.Deep.RegionHeld3
import Derived.LaidEqlPtr
namespace Go.Proofs.Ytlgkjidginibdaa
open Go.ChangeShapes Go.WideShapes Go.ChangeAt Go.RowKit

/-- two lists compared from their ends. -/
def cmpR : List Int → List Int → Int
  | x :: xs, y :: ys => orI (cmpR xs ys) (cmpI x y)
  | _, _ => 0
theorem or_assoc (a b c : Int) : orI (orI a b) c = orI a (orI b c) := by
  by_cases h : a = 0
  · subst h; rw [or_eq, or_eq]
  · rw [or_ne h, or_ne h, or_ne h]
theorem cmpR_same : ∀ xs : List Int, cmpR xs xs = 0
  | [] => by unfold cmpR; rfl
  | x :: xs => by rw [cmpR, cmpR_same xs, or_eq, cmp_eq]
theorem lex_snoc : ∀ {xs ys : List Int}, xs.length = ys.length → ∀ a b : Int, lexF (xs ++ [a]) (ys ++ [b]) = orI (lexF xs ys) (cmpI a b)
  | [], [], _, a, b => by
    show orI (cmpI a b) (lexF [] []) = orI (lexF [] []) (cmpI a b)
    have e : lexF [] [] = 0 := by unfold lexF; rfl
    rw [e, or_eq]
    by_cases h : cmpI a b = 0
    · rw [h]; rfl
    · exact or_ne h
  | x :: xs, y :: ys, hl, a, b => by
    show orI (cmpI x y) (lexF (xs ++ [a]) (ys ++ [b])) = orI (lexF (x :: xs) (y :: ys)) (cmpI a b)
    rw [lex_snoc (by simpa using hl) a b, lexF, or_assoc]
  | [], _ :: _, hl, _, _ => by simp at hl
  | _ :: _, [], hl, _, _ => by simp at hl
theorem cmpR_rev : ∀ {xs ys : List Int}, xs.length = ys.length → cmpR xs ys = lexF xs.reverse ys.reverse
  | [], [], _ => by unfold cmpR lexF; rfl
  | x :: xs, y :: ys, hl => by
    have hl' : xs.length = ys.length := by simpa using hl
    rw [cmpR, cmpR_rev hl', List.reverse_cons, List.reverse_cons, lex_snoc (by simpa using hl')]
  | [], _ :: _, hl => by simp at hl
  | _ :: _, [], hl => by simp at hl
theorem Lk.same {fs : List Q4} {w : World} : ∀ {xs ys : List Int} {g : Nat} {ns ns' : List Int}, Lk fs w g xs ns → Lk fs w g ys ns' → xs.length = ys.length → xs = ys
  | [], [], _, _, _, _, _, _ => rfl
  | x :: xs, y :: ys, g, _, _, ⟨_, _, g1, _, h, r⟩, ⟨_, _, g2, _, h', r'⟩, hl => by
    rw [h] at h'
    injection h' with h'
    injection h' with h'
    have e3 := congrArg (fun (a : Array Value) => a[3]?) h'
    have e4 := congrArg (fun (a : Array Value) => a[4]?) h'
    simp at e3 e4
    subst e3 e4
    rw [Lk.same r r' (by simpa using hl)]
  | [], _ :: _, _, _, _, _, _, hl => by simp at hl
  | _ :: _, [], _, _, _, _, _, hl => by simp at hl
theorem keepAlloc {w : World} {p : Addr} {v : Value} (o : Obj) (h : w.cell? p = some v) : (w.alloc o).cell? p = some v := by
  rw [World.cell?_alloc_some w p o (by rw [h]; rfl)]; exact h
theorem belA {w u : World} (h : Bel w u) (o : Obj) : Bel w (u.alloc o) := Bel.of ((Bel.out h).alloc (Bel.out h).size o)
theorem two0 (W : World) (a b : Value) (T : TypeId) (k : Nat) (hk : W.heap.size = k) : (W.alloc (.cells #[a, b] T)).cell? ⟨k, 0, none⟩ = some a := by subst hk; simp [go_sem]
theorem two1 (W : World) (a b : Value) (T : TypeId) (k : Nat) (hk : W.heap.size = k) : (W.alloc (.cells #[a, b] T)).cell? ⟨k, 1, none⟩ = some b := by subst hk; simp [go_sem]

theorem inf_wk : ∃ j, Try.prog.info? 216 = some j ∧ j.size ≠ 0 := by
  have h : (Try.prog.info? 216).map (fun i => i.size) = some 5 := by kernel_rfl
  cases hj : Try.prog.info? 216 with
  | none => rw [hj] at h; cases h
  | some j =>
    rw [hj] at h
    injection h with h
    have h5 : j.size = 5 := h
    exact ⟨j, rfl, by rw [h5]; decide⟩
theorem ptr_same (w : World) (g : Nat) : (binOp .eql 212 (.pointer (some ⟨g, 0, none⟩)) (.pointer (some ⟨g, 0, none⟩))).run Try.prog w = .ok (.bool true) w := by
  obtain ⟨j, hj, _⟩ := inf_wk
  exact run_eql_ptr_same w _ Try.underlying212 hj
theorem ptr_other (w : World) {g g' : Nat} {ca cb : Array Value} {ta tb : TypeId} (hne : ¬ g = g') (ha : w.heap[g]? = some (.cells ca ta (0, 0))) (hb : w.heap[g']? = some (.cells cb tb (0, 0))) :
    (binOp .eql 212 (.pointer (some ⟨g, 0, none⟩)) (.pointer (some ⟨g', 0, none⟩))).run Try.prog w = .ok (.bool false) w := by
  obtain ⟨j, hj, hs⟩ := inf_wk
  exact run_eql_ptr_other w Try.underlying212 hj hs (fun e => hne (by injection e)) ha hb

end Go.Proofs.Ytlgkjidginibdaa
