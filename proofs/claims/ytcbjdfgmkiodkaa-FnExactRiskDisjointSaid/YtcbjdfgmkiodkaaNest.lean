/- Words of our own: rows of structs that hold a slice of ints each, whatever their cells; the rows that make lays; arguments read. No condition but those typed. -/
import Derived.Test.YtcbjdfgmkiodkaaRtS
namespace Go.Proofs.Ytcbjdfgmkiodkaa
open Go.ChangeShapes Go.WideShapes Go.ChangeAt Go.RowKit Go.Deep

theorem Rd.rowK {α : Type} {w : World} {B : Nat} {A : Option Addr} {g : α → List Value} {K : Nat} (hg : ∀ x, (g x).length = K) (h0 : 0 < K) {xs : List α} (h : Rd w B A (xs.flatMap g)) {i : Nat} (hi : i < xs.length) :
    ∃ ad, A = some ad ∧ ad.block < B ∧ ∀ j, j < K → w.cell? (ad.add (i * K + j)) = (g xs[i])[j]? := by
  have hget := fun j hj => flat_get g K xs (fun r _ => hg r) i j hj
  rw [List.getElem?_eq_getElem hi] at hget
  have hsome : ∀ j, j < K → ∃ u, (g xs[i])[j]? = some u := fun j hj => ⟨_, List.getElem?_eq_getElem (by rw [hg]; exact hj)⟩
  obtain ⟨u0, hu0⟩ := hsome 0 h0
  obtain ⟨ad, e, hb, _⟩ := h (i * K + 0) u0 ((hget 0 h0).trans hu0)
  refine ⟨ad, e, hb, fun j hj => ?_⟩
  obtain ⟨u, hu⟩ := hsome j hj
  obtain ⟨ad', e', _, hc⟩ := h (i * K + j) u ((hget j hj).trans hu)
  rw [e] at e'
  injection e' with e'
  subst e'
  rw [hc, hu]
/-- what make lays: the zero row again and again. -/
theorem madeK (z : Array Value) (n K : Nat) (hK : z.size = K) (h0 : 0 < K) : (madeCells z (n * K)).toList = (List.replicate n ()).flatMap fun _ => z.toList := by
  have hlen : ((List.replicate n ()).flatMap fun _ => z.toList).length = n * K := by
    rw [flat_len (fun _ => z.toList) K _ (fun _ _ => by simpa using hK), List.length_replicate]
  apply List.ext_getElem?
  intro j
  by_cases hj : j < n * K
  · have hi : j / K < n := (Nat.div_lt_iff_lt_mul h0).2 hj
    have hm : j % K < K := Nat.mod_lt _ h0
    have hje : j = j / K * K + j % K := by rw [Nat.mul_comm]; exact (Nat.div_add_mod j K).symm
    have hg := flat_get (fun _ : Unit => z.toList) K (List.replicate n ()) (fun _ _ => by simpa using hK) (j / K) (j % K) hm
    rw [← hje, List.getElem?_replicate, if_pos hi] at hg
    rw [hg]
    have : z[j % K]! = z[j % K]'(by omega) := by simp [hK, hm]
    simp [madeCells, hj, hK, hm]
  · rw [List.getElem?_eq_none (l := (madeCells z (n * K)).toList) (by rw [Array.length_toList, size_madeCells]; omega), List.getElem?_eq_none (by rw [hlen]; omega)]
section
variable {H : Type} {enc : TypeId × Value → H} {P : Program} {w : World} {held : Bool}
/-- a slice argument read row by row, by whatever reads one row. -/
theorem rd_rowsG {α : Type} (cells : α → List Value) (In : α → Prop) (K : Nat) {t e : TypeId} {fuel : Nat} {cs : List Value} {x : DataW H × List MemPlace} (ht : P.underlying t = some (.slice e)) (hC : P.cellsOf e = K) (h0 : 0 < K) (hg : ∀ r, (cells r).length = K)
    (hrow : ∀ (fuel : Nat) (cs : List Value) (x : DataW H × List MemPlace), DataW.trod enc P w 0 (fun _ => true) held fuel e cs = some x → ∃ r : α, cs = cells r ∧ In r) (h : DataW.trod enc P w 0 (fun _ => true) held fuel t cs = some x) :
    ∃ (A : Option Addr) (n c : Nat) (rows : List α), cs = [.slice A n c] ∧ rows.length = n ∧ n ≤ maxLen ∧ Rd w w.heap.size A (rows.flatMap cells) ∧ ∀ r ∈ rows, In r := by
  rcases open_slice ht h with ⟨rfl, _⟩ | ⟨a, len, cap, m, n, D, Pl, rfl, _, hl, hm, hmm, _, hx⟩
  · exact ⟨none, 0, 0, [], rfl, rfl, by unfold maxLen; omega, fun k u hu => by simp at hu, fun s hs => by simp at hs⟩
  · simp only [if_true] at hmm
    subst hmm
    have each : ∀ i, i < m → ∃ r : α, In r ∧ ∀ j, j < K → w.cell? (a.add (i * K + j)) = (cells r)[j]? := by
      intro i hi
      obtain ⟨cs', hc, ht'⟩ := hx i hi
      rw [hC] at hc
      obtain ⟨r, rfl, hin⟩ := hrow _ _ _ ht'
      obtain ⟨_, _, hat⟩ := World.cells?_some hc
      exact ⟨r, hin, fun j hj => by rw [← hat j hj, add_add]⟩
    have hlm : len ≤ m := hl
    have all : ∀ k, k ≤ len → ∃ rows : List α, rows.length = k ∧ (∀ r ∈ rows, In r) ∧ ∀ i (hi : i < rows.length), ∀ j, j < K → w.cell? (a.add (i * K + j)) = (cells rows[i])[j]? := by
      intro k
      induction k with
      | zero => exact fun _ => ⟨[], rfl, fun r hr => by simp at hr, fun i hi => by simp at hi⟩
      | succ k ih =>
        intro hk
        obtain ⟨rows, h1, h2, h3⟩ := ih (by omega)
        obtain ⟨r, h4, h5⟩ := each k (by omega)
        refine ⟨rows ++ [r], by simp [h1], fun q hq => ?_, fun i hi j hj => ?_⟩
        · rcases List.mem_append.1 hq with hq | hq
          · exact h2 q hq
          · rw [List.mem_singleton.1 hq]; exact h4
        · by_cases hir : i < rows.length
          · rw [List.getElem_append_left hir]; exact h3 i hir j hj
          · have e : i = k := by simp at hi; omega
            subst e
            rw [List.getElem_append_right (by omega)]
            simp only [h1, Nat.sub_self, List.getElem_cons_zero]
            exact h5 j hj
    obtain ⟨rows, h1, h2, h3⟩ := all len (Nat.le_refl _)
    refine ⟨some a, len, m, rows, rfl, h1, by omega, ?_, h2⟩
    intro p u hu
    have hlen := flat_len cells K rows (fun r _ => hg r)
    have hp : p < rows.length * K := by
      rw [← hlen]
      exact (List.getElem?_eq_some_iff.1 hu).1
    have hi : p / K < rows.length := (Nat.div_lt_iff_lt_mul h0).2 hp
    have hj : p % K < K := Nat.mod_lt _ h0
    have hpe : p = p / K * K + p % K := by rw [Nat.mul_comm]; exact (Nat.div_add_mod p K).symm
    have hget := flat_get cells K rows (fun r _ => hg r) (p / K) (p % K) hj
    rw [← hpe, hu, List.getElem?_eq_getElem hi] at hget
    have hcell := h3 (p / K) hi (p % K) hj
    rw [← hpe] at hcell
    have hcell' : w.cell? (a.add p) = some u := by rw [hcell, hget]; rfl
    exact ⟨a, rfl, by rw [← addBlock a p]; exact World.block_lt_of_cell? w _ hcell', hcell'⟩
theorem tr_int {t : TypeId} {fuel : Nat} {v : Value} {x : DataW H × List MemPlace} (ht : P.underlying t = some (.int .i64)) (h : DataW.trod enc P w 0 (fun _ => true) held fuel t [v] = some x) : ∃ z : Int, v = .int .i64 z ∧ (Lit.int .i64 z).wf = true := by
  obtain ⟨z, hz, _, hwf⟩ := DataW.trod_int ht h
  exact ⟨z, by simpa using hz, hwf⟩
/-- a struct of an int and a list of ints. -/
theorem tr_rt {t e1 : TypeId} {f0 f1 : Field} {fuel : Nat} {x0 x1 : Value} {x : DataW H × List MemPlace} (hs : P.underlying t = some (.struct #[f0, f1])) (o0 : f0.offset = 0) (k0 : P.cellsOf f0.type = 1) (o1 : f1.offset = 1) (k1 : P.cellsOf f1.type = 1)
    (u0 : P.underlying f0.type = some (.int .i64)) (u1 : P.underlying f1.type = some (.slice e1)) (ue1 : P.underlying e1 = some (.int .i64)) (ce1 : P.cellsOf e1 = 1)
    (h : DataW.trod enc P w 0 (fun _ => true) held fuel t [x0, x1] = some x) :
    ∃ (st : Int) (A : Option Addr) (n c : Nat) (zs : List Int), x0 = .int .i64 st ∧ x1 = .slice A n c ∧ (Lit.int .i64 st).wf = true ∧ (zs.length = n ∧ n ≤ maxLen ∧ Rd w w.heap.size A (zs.map (Value.int .i64)) ∧ (∀ z ∈ zs, (Lit.int .i64 z).wf = true)) := by
  obtain ⟨ys, n, _, hx, _, hlen, hg⟩ := DataW.trod_struct hs h
  match ys, hlen with
  | [y0, y1], _ =>
    have g0 : DataW.trod enc P w 0 (fun _ => true) held n f0.type [x0] = some y0 := by simpa [o0, k0] using hg 0 f0 rfl
    have g1 : DataW.trod enc P w 0 (fun _ => true) held n f1.type [x1] = some y1 := by simpa [o1, k1] using hg 1 f1 rfl
    obtain ⟨z, hz, hwf⟩ := tr_int u0 g0
    obtain ⟨A1, n1, c1, zs, e1, a⟩ := rd_ints u1 ue1 ce1 g1
    injection e1 with e1
    exact ⟨z, A1, n1, c1, zs, hz, e1, hwf, a⟩
/-- a struct of two ints. -/
theorem tr_q2 {t : TypeId} {f0 f1 : Field} {fuel : Nat} {x0 x1 : Value} {x : DataW H × List MemPlace} (hs : P.underlying t = some (.struct #[f0, f1])) (o0 : f0.offset = 0) (k0 : P.cellsOf f0.type = 1) (o1 : f1.offset = 1) (k1 : P.cellsOf f1.type = 1)
    (u0 : P.underlying f0.type = some (.int .i64)) (u1 : P.underlying f1.type = some (.int .i64)) (h : DataW.trod enc P w 0 (fun _ => true) held fuel t [x0, x1] = some x) :
    ∃ a b : Int, x0 = .int .i64 a ∧ x1 = .int .i64 b ∧ (Lit.int .i64 a).wf = true ∧ (Lit.int .i64 b).wf = true := by
  obtain ⟨ys, n, _, hx, _, hlen, hg⟩ := DataW.trod_struct hs h
  match ys, hlen with
  | [y0, y1], _ =>
    have g0 : DataW.trod enc P w 0 (fun _ => true) held n f0.type [x0] = some y0 := by simpa [o0, k0] using hg 0 f0 rfl
    have g1 : DataW.trod enc P w 0 (fun _ => true) held n f1.type [x1] = some y1 := by simpa [o1, k1] using hg 1 f1 rfl
    obtain ⟨a, ha, hwa⟩ := tr_int u0 g0
    obtain ⟨b, hb, hwb⟩ := tr_int u1 g1
    exact ⟨a, b, ha, hb, hwa, hwb⟩
end
/-- rows filled from the front, the rest as make lays it. -/
def fillG {α : Type} (cells : α → List Value) (z : List Value) (ys : List α) (m : Nat) : List Value := ys.flatMap cells ++ (List.replicate m ()).flatMap fun _ => z
theorem fillG_pre {α : Type} {cells : α → List Value} {K : Nat} (hg : ∀ x, (cells x).length = K) (ys : List α) : (ys.flatMap cells).length = ys.length * K := flat_len cells K ys (fun r _ => hg r)
theorem fillG_get {α : Type} {cells : α → List Value} {K : Nat} (hg : ∀ x, (cells x).length = K) {z : List Value} (hz : z.length = K) (ys : List α) (m j : Nat) (hm : 0 < m) (hj : j < K) : (fillG cells z ys m)[ys.length * K + j]? = z[j]? := by
  unfold fillG
  rw [List.getElem?_append_right (by rw [fillG_pre hg]; omega), fillG_pre hg, Nat.add_sub_cancel_left]
  have := flat_get (fun _ : Unit => z) K (List.replicate m ()) (fun _ _ => hz) 0 j hj
  rw [Nat.zero_mul, Nat.zero_add, List.getElem?_replicate, if_pos hm] at this
  exact this
theorem ownOff {w w' : World} {S : Nat → Prop} {B E s n g c : Nat} {xs : List Value} (h : Off S w w') (ho : w.ownsRow B E s (.slice (some ⟨g, 0, none⟩) n c) n xs) (hs : ¬ S g) : w'.ownsRow B E s (.slice (some ⟨g, 0, none⟩) n c) n xs := Off.own h ho hs
end Go.Proofs.Ytcbjdfgmkiodkaa
