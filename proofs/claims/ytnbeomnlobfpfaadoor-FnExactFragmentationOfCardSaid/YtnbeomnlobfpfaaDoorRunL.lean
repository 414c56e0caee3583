/- Contract of impl.blockMask at the door seat; the cells of impl.freeRunsOf's struct and its loop's invariant. No condition but those typed. -/
import Derived.Test.YtnbeomnlobfpfaaDoorRuns
namespace Go.Proofs.YtnbeomnlobfpfaaDoor
open Go.ChangeShapes Go.WideShapes Go.ChangeAt Go.RowKit

theorem compl_u64 (y : Nat) (hy : y < 16777216) : bits .xor .u64 IntKind.u64.max (IntKind.u64.wrap (y : Int)) = ((18446744073709551615 - y : Nat) : Int) := by
  have e0 : IntKind.u64.max = ((18446744073709551615 : Nat) : Int) := by decide
  have e1 : IntKind.u64.wrap (y : Int) = (y : Int) := by rw [IntKind.wrap_u64]; omega
  rw [e0, e1, bits_xor_u64_nat _ _ (by omega) (by omega)]
  congr 1
  apply Nat.eq_of_testBit_eq
  intro i
  have a1 : Nat.testBit 18446744073709551615 i = decide (i < 64) := by
    have := Nat.testBit_two_pow_sub_one 64 i
    simpa using this
  have a2 : 18446744073709551615 - y = 2 ^ 64 - (y + 1) := by omega
  rw [Nat.testBit_xor, a1, a2, Nat.testBit_two_pow_sub_succ (show y < 2 ^ 64 by omega)]
  by_cases h : i < 64
  · simp [h]
  · have hy2 : y.testBit i = false := Nat.testBit_lt_two_pow (Nat.lt_of_lt_of_le (show y < 2 ^ 24 by omega) (Nat.pow_le_pow_right (by decide) (by omega)))
    simp [h, hy2]
def clr (x k : Nat) : Nat := (BitVec.ofNat 64 x &&& ~~~ BitVec.ofNat 64 k).toNat
theorem clr_lt (x k : Nat) (hx : x < 16777216) : clr x k ≤ x := by
  unfold clr
  rw [BitVec.toNat_and]
  have h := @Nat.and_le_left (BitVec.ofNat 64 x).toNat (~~~ BitVec.ofNat 64 k).toNat
  rw [BitVec.toNat_ofNat, Nat.mod_eq_of_lt (by omega)] at h ⊢
  exact h
theorem clr_bit (x k i : Nat) (hx : x < 16777216) : (clr x k).testBit i = (x.testBit i && !k.testBit i) := by
  unfold clr
  rw [BitVec.testBit_toNat, BitVec.getLsbD_and, BitVec.getLsbD_not, BitVec.getLsbD_ofNat, BitVec.getLsbD_ofNat]
  by_cases h : i < 64
  · simp [h]
  · have hx2 : x.testBit i = false := Nat.testBit_lt_two_pow (Nat.lt_of_lt_of_le (show x < 2 ^ 24 by omega) (Nat.pow_le_pow_right (by decide) (by omega)))
    simp [h, hx2]
theorem bits_clr (x k : Nat) (hx : x < 16777216) : bits .andNot .i64 (x : Int) (k : Int) = (clr x k : Int) := by
  have h := clr_lt x k hx
  show IntKind.i64.wrap ((BitVec.ofInt 64 (x : Int) &&& ~~~ BitVec.ofInt 64 (k : Int)).toNat : Int) = _
  rw [BitVec.ofInt_natCast, BitVec.ofInt_natCast]
  exact wraps_i64 _ (Int.natCast_nonneg _) (by unfold clr at h; omega)
def rcell (acc : List (Nat × Nat)) (j : Nat) : Int := if j = 24 then (acc.length : Int) else if j % 2 = 0 then ((acc[j / 2]?.getD (0, 0)).1 : Int) else ((acc[j / 2]?.getD (0, 0)).2 : Int)
def fr (m i : Nat) : Bool := (freeN m).testBit i
theorem rcell_step (acc : List (Nat × Nat)) (t c j : Nat) (hj : j ≠ 24) (h1 : j ≠ acc.length * 2) (h2 : j ≠ acc.length * 2 + 1) : rcell (acc ++ [(t, c)]) j = rcell acc j := by
  unfold rcell
  rw [if_neg hj, if_neg hj]
  have e : (acc ++ [(t, c)])[j / 2]?.getD (0, 0) = acc[j / 2]?.getD (0, 0) := by
    by_cases h : j / 2 < acc.length
    · rw [List.getElem?_append_left h]
    · have h3 : acc.length + 1 ≤ j / 2 := by omega
      rw [List.getElem?_eq_none (by simp; omega), List.getElem?_eq_none (by omega)]
  rw [e]
theorem rcell_a (acc : List (Nat × Nat)) (t c : Nat) (h : acc.length ≤ 11) : rcell (acc ++ [(t, c)]) (acc.length * 2) = (t : Int) := by
  unfold rcell
  rw [if_neg (by omega), if_pos (by omega), Nat.mul_div_cancel _ (by decide)]
  simp
theorem rcell_b (acc : List (Nat × Nat)) (t c : Nat) (h : acc.length ≤ 11) : rcell (acc ++ [(t, c)]) (acc.length * 2 + 1) = (c : Int) := by
  unfold rcell
  rw [if_neg (by omega), if_neg (by omega), show (acc.length * 2 + 1) / 2 = acc.length from by omega]
  simp
theorem rcell_n (acc : List (Nat × Nat)) (t c : Nat) : rcell (acc ++ [(t, c)]) 24 = (acc.length : Int) + 1 := by
  unfold rcell
  rw [if_pos rfl, List.length_append]
  simp
def zer25 : Array Value := #[.int .i64 0, .int .i64 0, .int .i64 0, .int .i64 0, .int .i64 0, .int .i64 0, .int .i64 0, .int .i64 0, .int .i64 0, .int .i64 0, .int .i64 0, .int .i64 0, .int .i64 0, .int .i64 0, .int .i64 0, .int .i64 0, .int .i64 0, .int .i64 0, .int .i64 0, .int .i64 0, .int .i64 0, .int .i64 0, .int .i64 0, .int .i64 0, .int .i64 0]
theorem zer_at (j : Nat) (hj : j < 25) : zer25[j]? = some (.int .i64 0) := by
  have h : j = 0 ∨ j = 1 ∨ j = 2 ∨ j = 3 ∨ j = 4 ∨ j = 5 ∨ j = 6 ∨ j = 7 ∨ j = 8 ∨ j = 9 ∨ j = 10 ∨ j = 11 ∨ j = 12 ∨ j = 13 ∨ j = 14 ∨ j = 15 ∨ j = 16 ∨ j = 17 ∨ j = 18 ∨ j = 19 ∨ j = 20 ∨ j = 21 ∨ j = 22 ∨ j = 23 ∨ j = 24 := by omega
  rcases h with rfl | rfl | rfl | rfl | rfl | rfl | rfl | rfl | rfl | rfl | rfl | rfl | rfl | rfl | rfl | rfl | rfl | rfl | rfl | rfl | rfl | rfl | rfl | rfl | rfl <;> rfl
theorem rcell_nil (j : Nat) : rcell [] j = 0 := by
  unfold rcell
  by_cases h : j = 24
  · rw [if_pos h]; rfl
  · rw [if_neg h]; split <;> rfl
theorem set_cells {W : World} {G n : Nat} {acc : List (Nat × Nat)} (t c : Nat) (hn : acc.length = n) (hn11 : n ≤ 11) (h : ∀ j, j < 25 → W.cell? ⟨G, j, none⟩ = some (.int .i64 (rcell acc j))) :
    ∀ j, j < 25 → (((W.setCell ⟨G, n * 2, none⟩ (.int .i64 (t : Int))).setCell ⟨G, n * 2 + 1, none⟩ (.int .i64 (c : Int))).setCell ⟨G, 24, none⟩ (.int .i64 ((n : Int) + 1))).cell? ⟨G, j, none⟩ = some (.int .i64 (rcell (acc ++ [(t, c)]) j)) := by
  intro j hj
  have ne : ∀ a b : Nat, a ≠ b → (⟨G, a, none⟩ : Addr) ≠ ⟨G, b, none⟩ := fun a b hab e => hab (by injection e)
  by_cases h24 : j = 24
  · subst h24
    rw [World.cell?_setCell_same' _ _ _ (by rw [World.cell?_setCell_other (h := ne _ _ (by omega)), World.cell?_setCell_other (h := ne _ _ (by omega)), h 24 hj]; rfl), rcell_n, hn]
  · rw [World.cell?_setCell_other (h := ne _ _ (fun e => h24 e.symm))]
    by_cases hb : j = n * 2 + 1
    · subst hb
      rw [World.cell?_setCell_same' _ _ _ (by rw [World.cell?_setCell_other (h := ne _ _ (by omega)), h _ hj]; rfl)]
      subst hn
      rw [rcell_b _ _ _ hn11]
    · rw [World.cell?_setCell_other (h := ne _ _ (fun e => hb e.symm))]
      by_cases ha : j = n * 2
      · subst ha
        rw [World.cell?_setCell_same' _ _ _ (by rw [h _ hj]; rfl)]
        subst hn
        rw [rcell_a _ _ _ hn11]
      · rw [World.cell?_setCell_other (h := ne _ _ (fun e => ha e.symm)), h j hj]
        subst hn
        rw [rcell_step _ _ _ _ h24 ha hb]
def rcells (acc : List (Nat × Nat)) : List Value := (List.range 25).map fun j => .int .i64 (rcell acc j)
theorem rcells_len (acc : List (Nat × Nat)) : (rcells acc).length = 25 := by unfold rcells; simp
theorem rcells_at (acc : List (Nat × Nat)) (j : Nat) (v : Value) (h : (rcells acc)[j]? = some v) : j < 25 ∧ v = .int .i64 (rcell acc j) := by
  unfold rcells at h
  rw [List.getElem?_map, Option.map_eq_some_iff] at h
  obtain ⟨a, ha, rfl⟩ := h
  have hj : j < 25 := by
    have := (List.getElem?_eq_some_iff.1 ha).1
    simpa using this
  rw [List.getElem?_range hj] at ha
  injection ha with ha
  exact ⟨hj, by rw [ha]⟩
structure RInv (m G : Nat) (x p : Nat) (acc : List (Nat × Nat)) (w wr : World) : Prop where
  xl : x < 16777216
  bits : ∀ i, x.testBit i = (fr m i && decide (p ≤ i))
  sp : sp (fr m) p = (acc, 0)
  two : 2 * acc.length ≤ p
  cells : ∀ j, j < 25 → wr.cell? ⟨G, j, none⟩ = some (.int .i64 (rcell acc j))
  frz : ∀ j, wr.frozen? ⟨G, j, none⟩ = false
  lt : G < wr.heap.size
  bel : Below w.heap.size w wr
  top : p ≤ 25
  res : wr.heap[w.heap.size]? = some (.cells zer25 141 (0, 0))
theorem RInv.over {m G x p : Nat} {acc : List (Nat × Nat)} {w wr w' : World} (h : RInv m G x p acc w wr) (hb : Below wr.heap.size wr w') : RInv m G x p acc w w' :=
  ⟨h.xl, h.bits, h.sp, h.two, fun j hj => (hb.cell (p := ⟨G, j, none⟩) h.lt).trans (h.cells j hj), fun j => (hb.frozen (p := ⟨G, j, none⟩) h.lt).trans (h.frz j), Nat.lt_of_lt_of_le h.lt hb.size, h.bel.trans (hb.mono h.bel.size), h.top, (hb.block _ (Array.getElem?_eq_some_iff.1 h.res).1).trans h.res⟩
theorem rcells_one (acc : List (Nat × Nat)) : (rcells acc).toArray.all (·.oneCell') = true := by
  rw [Array.all_eq_true_iff_forall_mem]
  intro v hv
  have hv' : v ∈ rcells acc := by simpa using hv
  unfold rcells at hv'
  rw [List.mem_map] at hv'
  obtain ⟨j, _, rfl⟩ := hv'
  rfl
def RunsP (m : Nat) (w : World) (e : Ending) (w' : World) : Prop := ∃ acc, sp (fr m) 25 = (acc, 0) ∧ acc.length ≤ 12 ∧ e = .returned (.agg (rcells acc).toArray) ∧ Below w.heap.size w w'
theorem Tryd.inf_Runs : (Tryd.prog.info? 141).map (·.size) = some 25 := by kernel_rfl
end Go.Proofs.YtnbeomnlobfpfaaDoor
