/- Words of our own: one element appended to a row of the call's own, whatever its element; two rows apart. No condition but those typed. -/
import Derived.Test.YtcbjdfgmkiodkaaMark
import Derived.Maps.AppendAt
namespace Go.Proofs.Ytcbjdfgmkiodkaa
open Go.ChangeShapes Go.WideShapes Go.ChangeAt Go.RowKit

theorem wp_app {P : Program} {ops : Array Oper} {rest : List Oper} {o : Oper} {a : Act} {Q : Exit → Act → World → Prop} {w : World} (hgd : o.guard = none) (s x : Operand) (T E : TypeId)
    (ho : o.op = .call { callee := .builtin .append, args := #[s, x], argTypes := #[T, T] })
    (B : Nat) {z : Value} {k bytes : Nat} (ht : P.underlying T = some (.slice E)) (hinf : (P.info? E).map (fun i => (i.zero, i.size, i.bytes)) = some (some z, k, bytes)) (hzs : z.cells.size = k) (hk : 0 < k) (hby : bytes ≤ 1024)
    (v : Value) (N : Nat) (xs : List Value) (hs : a.eval s = v) (hown : w.ownsRow B E k v N xs)
    (b c : Nat) (news : List Value) (hx : a.eval x = .slice (some ⟨b, 0, none⟩) 1 c) (hl : news.length = k) (hnews : ∀ j u, news[j]? = some u → w.cell? ⟨b, j, none⟩ = some u) (h1 : ∀ u ∈ news, u.oneCell' = true)
    (hN : N ≤ 1000000000) (hB : B ≤ w.heap.size)
    (h : ∀ A c N1 w', N1 = N + 1 → w'.ownsRow B E k (.slice A N1 c) N1 (xs ++ news) → w.grownBy w' v.ownBlock → ((Value.slice A N1 c).ownBlock = v.ownBlock ∨ (Value.slice A N1 c).ownBlock = some w.heap.size) → wpList P ops Q rest (a.put o.dst (.slice A N1 c)) w') :
    wpList P ops Q (o :: rest) a w := by
  obtain ⟨i0, hi, hz0, hz1, hz2⟩ := info_parts hinf
  refine wpList_append_own_at w hgd s x T ho B E i0 z k bytes ht hi hz0 hz1 hz2 hzs hk v N xs hs hown ⟨b, 0, none⟩ 1 c news hx (by rw [hl, Nat.one_mul]) ?_ h1 (by unfold maxLen; omega) ?_ hB ?_
  · intro j u hu
    have e : (⟨b, 0, none⟩ : Addr).add j = ⟨b, j, none⟩ := by unfold Addr.add; by_cases h : j = 0 <;> simp [h]
    rw [e]; exact hnews j u hu
  · have := Nat.mul_le_mul (by omega : N + 1 ≤ 1000000001) hby
    omega
  · intro v' w' hown' hgr _ hloc
    rcases hown'.2 with ⟨rfl, h0⟩ | ⟨g, cap, cur, rfl, _⟩
    · omega
    · exact h _ _ (N + 1) w' rfl hown' hgr hloc

theorem news1 {w : World} {b : Nat} {u0 : Value} (h : w.cell? ⟨b, 0, none⟩ = some u0) : ∀ (j : Nat) (u : Value), [u0][j]? = some u → w.cell? ⟨b, j, none⟩ = some u := by
  intro j u hu
  match j, hu with
  | 0, hu => simp at hu; subst hu; exact h
theorem news_int (z : Int) : ∀ u ∈ [Value.int .i64 z], u.oneCell' = true := by
  intro u hu; simp at hu; subst hu; rfl

/-- two values own no block together. -/
def Apart (v v' : Value) : Prop := ∀ g, v.ownBlock = some g → v'.ownBlock ≠ some g
theorem Apart.symm {v v' : Value} (h : Apart v v') : Apart v' v := fun g h1 h2 => h g h2 h1
theorem Apart.nil (v : Value) : Apart (.slice none 0 0) v := fun g h => by simp [Value.ownBlock] at h
theorem Apart.kept {v v' : Value} {B E s n : Nat} {xs : List Value} {w w' : World} (h : Apart v v') (ho : w.ownsRow B E s v n xs) (hg : w.grownBy w' v'.ownBlock) : w'.ownsRow B E s v n xs :=
  ho.kept hg (by
    cases hv : v.ownBlock with
    | none => exact .inl rfl
    | some g => exact .inr fun e => h g hv e.symm)
theorem Apart.loc {v v' v1 : Value} {B E s n : Nat} {xs : List Value} {w : World} (h : Apart v v') (ho : w.ownsRow B E s v n xs) (hloc : v1.ownBlock = v'.ownBlock ∨ v1.ownBlock = some w.heap.size) : Apart v v1 := by
  intro g hg e
  rcases hloc with hl | hl
  · exact h g hg (by rw [← hl]; exact e)
  · have := (ho.lt g hg).2
    rw [hl] at e
    injection e with e
    omega
/-- rows of the call's own: int slices; what is appended. -/
theorem Apart.out {A A' : Option Addr} {n c n' c' B E s k : Nat} {xs : List Value} {w : World} (h : Apart (.slice A n c) (.slice A' n' c')) : ∀ g, A = some ⟨g, 0, none⟩ → A' ≠ some ⟨g, 0, none⟩ := by
  intro g h1 h2
  subst h1 h2
  exact h g rfl rfl
end Go.Proofs.Ytcbjdfgmkiodkaa
