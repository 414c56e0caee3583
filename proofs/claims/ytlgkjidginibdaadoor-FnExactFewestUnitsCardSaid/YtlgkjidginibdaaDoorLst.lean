/- Contracts: math/bits.TrailingZeros and impl.listOf. Condition: the table of math/bits holds what Go's text lays. -/
import Derived.Test.YtlgkjidginibdaaDoorFail
import Derived.Test.YtlgkjidginibdaaDoorGB
import Derived.Test.YtlgkjidginibdaaDoorRch
import Derived.Shelf.Spec.TrailingZeros
import Derived.Lib.LaidTab
namespace Go.Proofs.YtlgkjidginibdaaDoor
open Go.ChangeShapes Go.WideShapes Go.ChangeAt Go.RowKit

def tzTab : List Int := Lib.deBruijn64tab.map fun x : Nat => (x : Int)
/-- the table of math/bits is in place. -/
def Tab (w : World) : Prop := Lib.TabIs Tryd.prog w "math/bits.deBruijn64tab" .u8 tzTab
theorem tabAt : Tryd.prog.globalNamed "math/bits.deBruijn64tab" = some 1 := by kernel_rfl
theorem tzTab_len : tzTab.length = 64 := by decide
theorem Tab.lt {w : World} (h : Tab w) : 1 < w.heap.size :=
  World.block_lt_of_cell? w _ (Lib.TabIs.cell h tabAt 0 (by rw [tzTab_len]; omega))
theorem var_below {P : Program} {B : Nat} {w w' : World} (hb : Below B w w') {name : String} {g : Nat} (hg : P.globalNamed name = some g) (hlt : g < B) : w'.var? P name = w.var? P name := by
  simp only [World.var?, hg, Option.bind_some, hb.block g hlt]
theorem Tab.over {w w' : World} (h : Tab w) (hb : Below w.heap.size w w') : Tab w' := by
  unfold Tab Lib.TabIs
  rw [var_below hb tabAt h.lt]; exact h

set_option maxHeartbeats 1000000 in
theorem tz64_core (x k idx : Nat) (w : World) (hx0 : ((x : Int) == 0) = false)
    (key : IntKind.u64.wrap (bits BinOp.and IntKind.u64 (x : Int) (IntKind.u64.wrap (-(x : Int))) * 285870213051353865) / 288230376151711744 = (idx : Int))
    (hi : idx < 64) (hk : k < 64) (hcell : w.cell? ⟨1, idx, none⟩ = some (.int .u8 k)) :
    Calls Tryd.prog 95 #[.int .u64 x] w fun e w' => e = .returned (.int .i64 k) ∧ w' = w := by
  go_enter Tryd.func95, Tryd.ntmps95
  go_wp2_with (simp only [key])
  go_ret
  exact ⟨rfl, rfl⟩
theorem tz (x : Nat) (w : World) (hx : x < 18446744073709551616) (hx0 : x ≠ 0) (hT : Tab w) :
    Calls Tryd.prog 74 #[.int .u64 (x : Int)] w fun e w' => e = .returned (.int .i64 (Lib.ctz 64 x : Int)) ∧ w = w' := by
  have hlk := Lib.lowest_bit 64 x hx0 hx
  obtain ⟨hi, htab⟩ := Lib.deBruijn64_at _ hlk.2
  have hcell := Lib.TabIs.cell hT tabAt _ (by rw [tzTab_len]; exact hi)
  have e : tzTab.getD (2 ^ Lib.ctz 64 x * 285870213051353865 % 18446744073709551616 / 288230376151711744) 0 = (Lib.ctz 64 x : Int) := by
    have h2 := htab
    unfold tzTab
    rw [List.getD_eq_getElem?_getD] at h2 ⊢
    rw [List.getElem?_map]
    cases hg : Lib.deBruijn64tab[2 ^ Lib.ctz 64 x * 285870213051353865 % 18446744073709551616 / 288230376151711744]? with
    | none => rw [hg] at h2; simp at h2; simp [← h2]
    | some v => rw [hg] at h2; simp at h2; simp [h2]
  rw [e] at hcell
  have C := Lib.hid (tz64_core x _ _ w (by simp; omega) (tz64_key x _ hx hx0 hlk.1) hi hlk.2 hcell)
  have hw : IntKind.u64.wrap (x : Int) = (x : Int) := by rw [IntKind.wrap_u64]; omega
  clear e hcell hi htab hlk
  go_enter Tryd.func74, Tryd.ntmps74
  go_wp2_with fail
  refine C.out.mono ?_
  rintro e w' ⟨rfl, rfl⟩
  go_wp2
  go_ret
  exact ⟨rfl, rfl⟩
theorem low_bit (x : Nat) (h0 : x ≠ 0) (h : x < 2 ^ 64) : x.testBit (Lib.ctz 64 x) = true ∧ (∀ i, i < Lib.ctz 64 x → x.testBit i = false) := by
  obtain ⟨m, hm, _⟩ := Lib.ctzFrom_spec 64 x (by omega) h
  have e : Lib.ctz 64 x = Lib.ctzFrom 64 x := by simp [Lib.ctz, h0]
  rw [e]
  obtain ⟨t, ht⟩ : ∃ t, Lib.ctzFrom 64 x = t := ⟨_, rfl⟩
  rw [ht] at hm ⊢
  constructor
  · rw [hm, Nat.mul_comm, Nat.testBit_mul_two_pow, Nat.sub_self, Nat.testBit_zero]
    simp
  · intro i hi
    rw [hm, Nat.mul_comm, Nat.testBit_mul_two_pow, decide_eq_false (by omega : ¬ t ≤ i)]
    rfl
theorem and_pred (x : Nat) (h0 : x ≠ 0) (h : x < 2 ^ 64) (i : Nat) : (x &&& (x - 1)).testBit i = (x.testBit i && decide (i ≠ Lib.ctz 64 x)) := by
  obtain ⟨m, hm, _⟩ := Lib.ctzFrom_spec 64 x (by omega) h
  have e : Lib.ctz 64 x = Lib.ctzFrom 64 x := by simp [Lib.ctz, h0]
  rw [e]
  obtain ⟨t, ht⟩ : ∃ t, Lib.ctzFrom 64 x = t := ⟨_, rfl⟩
  rw [ht] at hm ⊢
  have hp : 0 < 2 ^ t := Nat.two_pow_pos t
  have e1 : x = 2 ^ (t + 1) * m + 2 ^ t := by rw [hm, Nat.pow_succ, Nat.mul_add, Nat.mul_one, Nat.mul_assoc]
  have e2 : x - 1 = 2 ^ (t + 1) * m + (2 ^ t - 1) := by omega
  have l1 : 2 ^ t < 2 ^ (t + 1) := by rw [Nat.pow_succ]; omega
  have l2 : 2 ^ t - 1 < 2 ^ (t + 1) := by omega
  rw [Nat.testBit_and, e2, Nat.testBit_two_pow_mul_add m l2, e1, Nat.testBit_two_pow_mul_add m l1, Nat.testBit_two_pow_sub_one, Nat.testBit_two_pow]
  by_cases hi : i < t + 1
  · rw [if_pos hi, if_pos hi]
    by_cases hit : i = t
    · subst hit; simp
    · have : ¬ t = i := fun h => hit h.symm
      simp [this]
  · rw [if_neg hi, if_neg hi]
    have : i ≠ t := by omega
    simp [this]
theorem filter_step (p q : Nat → Bool) (t : Nat) (hp : p t = true) (hall : ∀ i, i < t → p i = false) (hq : ∀ i, q i = (p i && decide (i ≠ t))) : ∀ n, t < n → (List.range n).filter p = t :: (List.range n).filter q
  | 0, h => absurd h (by omega)
  | n + 1, h => by
    rw [List.range_succ, List.filter_append, List.filter_append]
    by_cases e : t = n
    · subst e
      have e0 : (List.range t).filter p = [] := by
        rw [List.filter_eq_nil_iff]
        intro s hs hps
        rw [hall s (by simpa using hs)] at hps
        exact absurd hps (by decide)
      have e1 : (List.range t).filter q = [] := by
        rw [List.filter_eq_nil_iff]
        intro s hs hps
        rw [hq, hall s (by simpa using hs), Bool.false_and] at hps
        exact absurd hps (by decide)
      rw [e0, e1]
      simp [hp, hq]
    · have e1 : q n = p n := by
        rw [hq, decide_eq_true (by omega : n ≠ t), Bool.and_true]
      rw [filter_step p q t hp hall hq n (by omega), List.filter_cons, List.filter_cons, e1, List.cons_append, List.filter_nil, List.filter_nil]
theorem filter_cap (p q : Nat → Bool) (n : Nat) (h : ∀ s, p s = true ↔ s < n ∧ q s = true) : ∀ d, (List.range (n + d)).filter p = (List.range n).filter q
  | 0 => by
    apply List.filter_congr
    intro s hs
    have hs' : s < n := by simpa using hs
    have := h s
    cases hq : q s with
    | true => exact this.2 ⟨hs', hq⟩
    | false =>
      cases hps : p s with
      | false => rfl
      | true => have := (this.1 hps).2; rw [hq] at this; exact this.symm
  | d + 1 => by
    have e : p (n + d) = false := by
      cases hps : p (n + d) with
      | false => rfl
      | true => have := ((h _).1 hps).1; omega
    rw [← Nat.add_assoc, List.range_succ, List.filter_append, filter_cap p q n h d, List.filter_cons, e]
    simp
def bl (x : Nat) : List Int := ((List.range 24).filter x.testBit).map fun i : Nat => ((i : Nat) : Int)
theorem bl_zero : bl 0 = [] := by decide
theorem bl_len (x : Nat) : (bl x).length ≤ 24 := by
  unfold bl; rw [List.length_map]; exact Nat.le_trans (List.length_filter_le _ _) (by simp)
theorem bl_step (x : Nat) (h0 : x ≠ 0) (h : x < 2 ^ 24) : bl x = (Lib.ctz 64 x : Int) :: bl (x &&& (x - 1)) := by
  obtain ⟨h1, h2⟩ := low_bit x h0 (by omega)
  have hc : Lib.ctz 64 x < 24 := by
    apply Nat.lt_of_not_le
    intro hle
    have : x.testBit (Lib.ctz 64 x) = false := Nat.testBit_lt_two_pow (Nat.lt_of_lt_of_le h (Nat.pow_le_pow_right (by decide) hle))
    rw [h1] at this
    exact absurd this (by decide)
  unfold bl
  rw [filter_step x.testBit (x &&& (x - 1)).testBit _ h1 h2 (and_pred x h0 (by omega)) 24 hc, List.map_cons]
theorem pred_lt (x : Nat) (h0 : x ≠ 0) : x &&& (x - 1) < x := Nat.lt_of_le_of_lt Nat.and_le_right (by omega)
theorem pred_i64 (x : Nat) (h0 : x ≠ 0) (h : x < 16777216) : bits .and .i64 (x : Int) ((x : Int) - 1) = ((x &&& (x - 1) : Nat) : Int) := by
  have e : (x : Int) - 1 = ((x - 1 : Nat) : Int) := by omega
  rw [e, and_i64q _ _ (by omega) (by omega)]

set_option maxRecDepth 100000 in
set_option maxHeartbeats 4000000 in
theorem listOf_ (x0 : Nat) (w : World) (hx0 : x0 < 16777216) (hT : Tab w) : Calls Tryd.prog 50 #[.int .i64 (x0 : Int)] w (IntP (bl x0) w) := by
  obtain ⟨i0, hi, hz0_, hz1_, hz2_⟩ := info_parts Tryd.inf_int
  have HI := Lib.hid hi; have HZ0 := Lib.hid hz0_; have HZ1 := Lib.hid hz1_; have HZ2 := Lib.hid hz2_
  have HTAB := Lib.hid hT
  have hx64 : (x0 : Int) ≤ 16777215 := by omega
  clear hi hz0_ hz1_ hz2_ hT
  go_enter Tryd.func50, Tryd.ntmps50
  go_wp2
  go_loopw [0, 3] (fun q v wr => ∃ (x : Nat) (acc : List Int) (A : Option Addr) (N cc : Nat), q = .int .i64 (x : Int) ∧ x < 16777216 ∧ v = .slice A N cc ∧ Hid (N = acc.length) ∧ Hid (acc ++ bl x = bl x0) ∧ Hid (wr.ownsRow w.heap.size 3 1 (.slice A N cc) N (acc.map (Value.int .i64))) ∧ Below w.heap.size w wr) (fun q _ _ => (intOf q).toNat)
  case atStart => exact ⟨x0, [], none, 0, 0, rfl, hx0, rfl, Lib.hid rfl, Lib.hid rfl, Lib.hid (World.ownsRow_nil _ _ _ _), Below.refl _ _⟩
  case round =>
    obtain ⟨x, acc, A, N, cc, rfl, hx, rfl, HNN, HAC, HOW, hb⟩ := hrel
    have hN : N ≤ 24 := by
      have h1 := HNN.out; have h2 := congrArg List.length HAC.out; have h3 := bl_len x0
      rw [List.length_append] at h2; omega
    by_cases hz : x = 0
    · subst hz
      have HF : Hid (acc = bl x0) := Lib.hid (by rw [← HAC.out, bl_zero, List.append_nil])
      go_wp2
      go_ret
      exact ⟨A, N, cc, rfl, Lib.hid (by rw [← HF.out]; exact HNN.out), by rw [← HF.out]; exact HOW.out, hb⟩
    · have hstep := bl_step x hz hx
      have hlt := pred_lt x hz
      have HPI := Lib.hid (pred_i64 x hz hx)
      have CL0 : ∀ W, Below w.heap.size w W → Calls Tryd.prog 74 #[.int .u64 (x : Int)] W fun e w' => e = .returned (.int .i64 (Lib.ctz 64 x : Int)) ∧ W = w' := fun W hW => tz x W (by omega) hz (HTAB.out.over hW)
      obtain ⟨l, hl⟩ : ∃ l, Lib.ctz 64 x = l := ⟨_, rfl⟩
      rw [hl] at hstep CL0
      obtain ⟨y, hy⟩ : ∃ y, x &&& (x - 1) = y := ⟨_, rfl⟩
      rw [hy] at hstep HPI hlt
      have CL := Lib.hid CL0
      have HST : Hid ((acc ++ [(l : Int)]) ++ bl y = bl x0) := Lib.hid (by rw [List.append_assoc, List.singleton_append, ← hstep]; exact HAC.out)
      have q := by have h : ((x : Int) == 0) = false := by simpa using hz
                   exact h
      have q2 : decide ((x : Int) = 0) = false := decide_eq_false (by omega)
      have q3 : IntKind.u64.wrap (x : Int) = x := by rw [IntKind.wrap_u64]; omega
      have q4 : 0 < (x : Int) := by omega
      have q5 : (x : Int) ≤ 16777215 := by omega
      have hsz := hb.size
      have hown := HOW.out
      clear hstep hl hy CL0 hz
      go_wp2_with fail
      refine (CL.out _ hb).mono ?_
      rintro e w' ⟨rfl, rfl⟩
      go_wp2_with (at_builtin; refine wpList_append_own _ rfl _ _ 29 rfl w.heap.size 3 i0 (.int .i64 0) 1 8 Tryd.underlying29 HI.out HZ0.out HZ1.out HZ2.out rfl (by decide) _ N _ rfl (hown.alloc _) ⟨wr.heap.size, 0, none⟩ 1 1 [.int .i64 (l : Int)] rfl rfl (new_one _ _ _) (new_int _) (by unfold maxLen; omega) (by omega) (by simp; omega) ?_)
      intro v1 w3 hown1 hgrow1 _
      have hB3 : Below w.heap.size w w3 := (hb.alloc hsz _).grown hgrow1 (by simp; omega) (fun g hg => (hown.lt g hg).1)
      obtain ⟨N1, hN1⟩ : ∃ N1, N + 1 = N1 := ⟨_, rfl⟩
      rw [hN1] at hown1
      obtain ⟨A1, c1', rfl⟩ := formOf hown1
      have hxs : acc.map (Value.int .i64) ++ [.int .i64 (l : Int)] = (acc ++ [(l : Int)]).map (Value.int .i64) := by rw [List.map_append]; rfl
      rw [hxs] at hown1
      have HOW1 := Lib.hid hown1
      have HN1' : Hid (N1 = (acc ++ [(l : Int)]).length) := Lib.hid (by rw [List.length_append, ← HNN.out, ← hN1]; rfl)
      clear hxs hown1 hN1 hgrow1 hown
      go_wp2
      rw [HPI.out]
      exact ⟨⟨y, acc ++ [(l : Int)], A1, N1, c1', rfl, by omega, rfl, HN1', HST, HOW1, hB3⟩, by simp [intOf]; omega⟩
/-- one of the set is taken out. -/
theorem bl_mem {m : Nat} (hm : m < 2 ^ 24) {x : Int} : x ∈ bl m ↔ ∃ i : Nat, x = (i : Int) ∧ m.testBit i = true := by
  unfold bl
  rw [List.mem_map]
  constructor
  · rintro ⟨i, hi, rfl⟩
    rw [List.mem_filter] at hi
    exact ⟨i, rfl, hi.2⟩
  · rintro ⟨i, rfl, hi⟩
    refine ⟨i, ?_, rfl⟩
    rw [List.mem_filter, List.mem_range]
    refine ⟨Nat.lt_of_not_le fun hle => ?_, hi⟩
    rw [Nat.testBit_lt_two_pow (Nat.lt_of_lt_of_le hm (Nat.pow_le_pow_right (by decide) hle))] at hi
    cases hi
theorem bl_sel {m n : Nat} (hn : n ≤ 24) (hm : m < 2 ^ n) : bl m = selK m.testBit n := by
  have h := filter_cap m.testBit m.testBit n (fun s => ⟨fun h => ⟨Nat.lt_of_not_le (fun hle => by
    rw [Nat.testBit_lt_two_pow (Nat.lt_of_lt_of_le hm (Nat.pow_le_pow_right (by decide) hle))] at h
    cases h), h⟩, fun h => h.2⟩) (24 - n)
  rw [show n + (24 - n) = 24 by omega] at h
  unfold bl
  rw [h]
  clear h hn hm
  induction n with
  | zero => rfl
  | succ k ih =>
    rw [List.range_succ, List.filter_append, List.map_append, ih]
    cases hk : m.testBit k with
    | true => rw [sel_in hk]; simp [hk]
    | false => rw [sel_out hk]; simp [hk]
end Go.Proofs.YtlgkjidginibdaaDoor
