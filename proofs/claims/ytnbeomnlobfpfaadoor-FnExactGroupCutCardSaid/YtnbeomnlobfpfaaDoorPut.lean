/- A list with a number put in its place: contract of spec.l1Put, over a row of the call's own. No condition but those typed. -/
import Derived.Test.YtnbeomnlobfpfaaDoorGB
import Derived.Test.YtnbeomnlobfpfaaDoorFail
import Derived.Test.YtnbeomnlobfpfaaDoorOwn
import Derived.Test.YtnbeomnlobfpfaaDoorLst
import Derived.Deep.RegionLaw
import Derived.Deep.AppendLies
import Derived.Deep.CutBlock
import Derived.Deep.DeepCutAuto
namespace Go.Proofs.YtnbeomnlobfpfaaDoor
open Go.ChangeShapes Go.WideShapes Go.ChangeAt Go.RowKit

def putL : List Int → Int → List Int
  | [], x => [x]
  | h :: t, x => if h < x then h :: putL t x else if h = x then h :: t else x :: h :: t
theorem put_len : ∀ (L : List Int) (x : Int), (putL L x).length ≤ L.length + 1
  | [], _ => Nat.le_refl _
  | h :: t, x => by
    unfold putL
    have := put_len t x
    split
    · simp only [List.length_cons]; omega
    · split <;> simp only [List.length_cons] <;> omega
theorem put_at : ∀ {L : List Int} {x : Int} {k : Nat}, k ≤ L.length → (∀ j, j < k → L.getD j 0 < x) → (k < L.length → ¬ L.getD k 0 < x) → putL L x = if k < L.length ∧ L.getD k 0 = x then L else L.take k ++ ([x] ++ L.drop k)
  | [], x, k, h, _, _ => by
    obtain rfl : k = 0 := by simpa using h
    rfl
  | h :: t, x, 0, _, _, h2 => by
    have h3 : ¬ h < x := h2 (by simp)
    unfold putL
    rw [if_neg h3]
    by_cases e : h = x
    · rw [if_pos e, if_pos ⟨by simp, e⟩]
    · rw [if_neg e, if_neg (fun h9 => e h9.2)]; rfl
  | h :: t, x, k + 1, hk, h1, h2 => by
    have h3 : h < x := h1 0 (by omega)
    have ih := put_at (L := t) (x := x) (k := k) (by simpa using hk) (fun j hj => h1 (j + 1) (by omega)) (fun h9 => h2 (by simpa using h9))
    unfold putL
    rw [if_pos h3, ih]
    by_cases e : k < t.length ∧ t.getD k 0 = x
    · rw [if_pos e, if_pos ⟨by simpa using e.1, e.2⟩]
    · rw [if_neg e, if_neg (fun h9 => e ⟨by simpa using h9.1, h9.2⟩)]; rfl
theorem cx0 (g k : Nat) : (⟨g, 0, none⟩ : Addr).add k = ⟨g, k, none⟩ := by unfold Addr.add; split <;> simp_all
theorem cxk (g o k : Nat) : (⟨g, o, none⟩ : Addr).add k = ⟨g, o + k, none⟩ := by unfold Addr.add; split <;> simp_all
theorem lit_rowH {w : World} {H : Nat} (hH : w.heap.size = H) (base : Nat) (hb : base ≤ w.heap.size) : (w.alloc (Obj.cells #[] 3)).ownsRow base 3 1 (.slice (some ⟨H, 0, none⟩) 0 0) 0 [] := by
  subst hH
  have h9 := World.ownsRow_lit (base := base) (e := 3) (size := 1) w #[] 0 hb (by unfold maxLen; omega) rfl
  simpa using h9
theorem far_at {w w' : World} {row : Option Nat} (hg : w.grownBy w' row) {b : Nat} {u : Value} (hc : w.cell? ⟨b, 0, none⟩ = some u) (hlt : b < w.heap.size) (hne : some b ≠ row) : w'.cell? ⟨b, 0, none⟩ = some u := (hg.cell_far ⟨b, 0, none⟩ hlt hne).trans hc
theorem one_at {W : World} {b : Nat} {x : Int} (h : W.cell? ⟨b, 0, none⟩ = some (.int .i64 x)) : ∀ (j : Nat) (u : Value), [Value.int .i64 x][j]? = some u → W.cell? ((⟨b, 0, none⟩ : Addr).add j) = some u := by
  intro j u hu
  match j, hu with
  | 0, hu => simp at hu; subst hu; exact h
def PutP (B : Nat) (M : List Int) (w : World) (e : Ending) (w' : World) : Prop :=
  ∃ (g N c : Nat), e = .returned (.slice (some ⟨g, 0, none⟩) N c) ∧ Hid (N = M.length) ∧ w'.ownsRow B 3 1 (.slice (some ⟨g, 0, none⟩) N c) N (M.map (Value.int .i64)) ∧ Below w.heap.size w w'
theorem step_app {P : Program} {ops : Array Oper} {o : Oper} {a : Act} {w : World} {K : Act → World → Prop} {Q : Exit → Act → World → Prop} {E : Prop}
    (hg : o.guard = none) (s x : Operand) (t : TypeId) (hop : o.op = Op.call { callee := Callee.builtin Builtin.append, args := #[s, x], argTypes := #[t, t] })
    (base : Nat) (e : TypeId) (i : TypeInfo) (z : Value) (size bytes : Nat) (h1 : P.underlying t = some (.slice e)) (h2 : P.info? e = some i) (h3 : i.zero = some z) (h4 : i.size = size) (h5 : i.bytes = bytes) (h6 : z.cells.size = size) (h7 : 0 < size)
    (v : Value) (n : Nat) (xs : List Value) (hs : a.eval s = v) (hown : w.ownsRow base e size v n xs)
    (ad : Addr) (m c : Nat) (news : List Value) (hx : a.eval x = .slice (some ad) m c) (hn : news.length = m * size) (hc : ∀ j u, news[j]? = some u → w.cell? (ad.add j) = some u) (h1c : ∀ u ∈ news, u.oneCell' = true)
    (b1 : n + m ≤ maxLen) (b2 : (n + m) * bytes ≤ 140737488355328) (hbase : base ≤ w.heap.size)
    (hK : ∀ v' w', w'.ownsRow base e size v' (n + m) (xs ++ news) → w.grownBy w' v.ownBlock → K (a.put o.dst v') w') :
    if Region.wanted o (yielded ops a.tmps) = true then Oper.wp P o a w K Q else E := by
  have hw : Region.wanted o (yielded ops a.tmps) = true := by simp [Region.wanted, hg]
  rw [if_pos hw]
  obtain ⟨v', w', hrun, r1, r2, _⟩ := run_append_own (P := P) w base t o.type e i z size bytes h1 h2 h3 h4 h5 h6 h7 v n xs hown ad m c news hn hc h1c b1 b2 hbase
  unfold Oper.wp
  simp [execOp, hop, resolve, invoke, builtin, hs, hx, hrun, Result.andThen]
  exact hK v' w' r1 r2
end Go.Proofs.YtnbeomnlobfpfaaDoor
