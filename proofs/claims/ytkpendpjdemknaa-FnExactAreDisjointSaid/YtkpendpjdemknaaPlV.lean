/- A plan in memory of the call's own: its lights' marks are held; whole plans compared, marked, held. No condition but those typed. -/
import Derived.Test.YtkpendpjdemknaaLtV
namespace Go.Proofs.Ytkpendpjdemknaa
open Go.ChangeShapes Go.WideShapes Go.ChangeAt Go.RowKit
theorem mAt_up (k : Nat) (ys : List Lt) {j : Nat} (hj : j < ys.length) : mAt k ys j ≤ mAt k ys (j + 1) := by rw [mAt_succ k ys hj]; omega
theorem mAt_le (k : Nat) (ys : List Lt) : ∀ (d j : Nat), j + d ≤ ys.length → mAt k ys j ≤ mAt k ys (j + d)
  | 0, j, _ => Nat.le_refl _
  | d + 1, j, h => by
    have h1 := mAt_le k ys d j (by omega)
    have h2 := mAt_up k ys (j := j + d) (by omega)
    exact Nat.le_trans h1 h2
theorem mAt_mono (k : Nat) (ys : List Lt) {j n : Nat} (hj : j ≤ n) (hn : n ≤ ys.length) : mAt k ys j ≤ mAt k ys n := by
  have := mAt_le k ys (n - j) j (by omega)
  rwa [show j + (n - j) = n by omega] at this
theorem mAt_base (k : Nat) (ys : List Lt) (j : Nat) : k ≤ mAt k ys j := by unfold mAt; omega
theorem mAt_bound (k : Nat) (ys : List Lt) (j m : Nat) (hm : ∀ y ∈ ys, y.n ≤ m) : mAt k ys j ≤ k + j * (4 + m) := by
  unfold mAt
  have : ∀ l : List Lt, (∀ y ∈ l, y.n ≤ m) → (l.map fun y => 4 + y.n).sum ≤ l.length * (4 + m) := by
    intro l hl
    induction l with
    | nil => simp
    | cons a r ih =>
      rw [List.map_cons, List.sum_cons, List.length_cons, Nat.succ_mul]
      have h1 := ih (fun y hy => hl y (List.mem_cons_of_mem _ hy))
      have h2 := hl a (by simp)
      omega
  have h1 := this (ys.take j) (fun y hy => hm y (List.mem_of_mem_take hy))
  have h2 : (ys.take j).length ≤ j := by rw [List.length_take]; omega
  have h3 := Nat.mul_le_mul_right (4 + m) h2
  omega
set_option maxRecDepth 100000 in
set_option maxHeartbeats 4000000 in
theorem heldLtR (A : Option Addr) (n c k : Nat) (ys : List Lt) (w : World) (hn : ys.length = n) (h : LtR A n (msK k ys n) w) (hs : n ≤ 1048576) (htot : mAt k ys n ≤ 90000000) :
    Calls Try.prog 79 #[.slice A n c, .int .i64 (k : Int)] w fun e w' => e = .returned (.int .i64 (mAt k ys n : Int)) ∧ w = w' := by
  have HX := Lib.hid h; have HLN := Lib.hid hn
  obtain ⟨R, hR⟩ : ∃ R, mAt k ys n = R := ⟨_, rfl⟩
  rw [hR] at htot ⊢
  have HRE := Lib.hid hR
  clear h hn hR
  go_enter Try.func79, Try.ntmps79
  go_wp2
  go_loop [1, 5] (fun q i => ∃ (j v : Nat), j ≤ n ∧ i = .int .i64 j ∧ q = .int .i64 (v : Int) ∧ Hid (v = mAt k ys j)) (fun _ i => n - (intOf i).toNat)
  case atStart => exact ⟨0, k, Nat.zero_le _, rfl, rfl, Lib.hid (mAt_zero k ys).symm⟩
  case round =>
    obtain ⟨j, v, hj, rfl, rfl, HV⟩ := hrel
    by_cases hlt : j < n
    case neg =>
      obtain rfl : j = n := by omega
      obtain rfl : v = R := by rw [HV.out, HRE.out]
      clear hlt
      go_wp2
      go_ret
      exact ⟨rfl, rfl⟩
    case pos =>
    have hjl : j < ys.length := by have := HLN.out; omega
    have hjm : j < (msK k ys n).length := by rw [msK_len]; exact hjl
    have hge : (msK k ys n)[j]'hjm = ltM (mAt k ys j) ys[j] := by rw [msK_get k ys n hjl, if_pos hlt]
    rw [← HV.out] at hge
    obtain ⟨y, hy⟩ : ∃ y, ys[j]'hjl = y := ⟨_, rfl⟩
    rw [hy] at hge
    have hV2 : Hid (v + (4 + y.n) = mAt k ys (j + 1)) := Lib.hid (by rw [mAt_succ k ys hjl, hy, HV.out])
    have hvb : v + (4 + y.n) ≤ 90000000 := by rw [hV2.out]; have := mAt_mono k ys (j := j + 1) (n := n) (by omega) (by have := HLN.out; omega); have := HRE.out; omega
    obtain ⟨ad, rfl, _, c0, c1, c2, c3, c4⟩ := HX.out.rd.ltA hjm
    have hat := HX.out.at_ _ (List.getElem_mem hjm)
    rw [hge] at c0 c1 c2 c3 c4 hat
    obtain ⟨b0, hb0⟩ : ∃ b0, v + 2 + y.n = b0 := ⟨_, rfl⟩
    have c0' : w.cell? (ad.add (j * 5)) = some (.int .i64 (v : Int)) := c0
    have c1' : w.cell? ⟨(ad.add (j * 5)).block, (ad.add (j * 5)).off + 1, none⟩ = some (.int .i64 ((v : Int) + 1)) := by rw [c1]; show some (Value.int .i64 ((v + 1 : Nat) : Int)) = _; congr 2
    have c2' : w.cell? ⟨(ad.add (j * 5)).block, (ad.add (j * 5)).off + 2, none⟩ = some (.slice y.A y.n y.c) := c2
    have c2'' : w.cell? ⟨(ad.add (j * 5)).block, (ad.add (j * 5)).off + 1 + 1, none⟩ = some (.slice y.A y.n y.c) := c2
    have c3' : w.cell? ⟨(ad.add (j * 5)).block, (ad.add (j * 5)).off + 3, none⟩ = some (.int .i64 (b0 : Int)) := by rw [c3, ← hb0]; rfl
    have c4' : w.cell? ⟨(ad.add (j * 5)).block, (ad.add (j * 5)).off + 4, none⟩ = some (.int .i64 ((b0 : Int) + 1)) := by rw [c4]; show some (Value.int .i64 ((v + 3 + y.n : Nat) : Int)) = _; congr 2; omega
    have ev : ((v + 2 : Nat) : Int) = (v : Int) + 1 + 1 := by omega
    have CM := Lib.hid (heldInt9 y.A y.n y.c (v + 2) w hat.2.2 hat.2.1 (by omega))
    rw [ev, hb0] at CM
    have HB0 := Lib.hid hb0
    have hb0b : b0 ≤ 90000000 := by omega
    have hbn : ¬ ((b0 : Int) < 0) := by omega
    have hbd : decide ((b0 : Int) < 0) = false := decide_eq_false hbn
    clear hge hy hat c0 c1 c2 c3 c4 hjm hb0 ev
    go_wp2_with fail
    refine CM.out.mono ?_
    rintro e w2 ⟨rfl, rfl⟩
    go_wp2
    go_round
    case rel => exact ⟨j + 1, v + (4 + y.n), by omega, by go_num, by have := HB0.out; congr 1; omega, hV2⟩
    case measure => simp [intOf]; omega
theorem markLt_nil9 (k : Int) (w : World) :
    Calls Try.prog 77 #[.slice none 0 0, .int .i64 k] w fun e w' => e = .returned (.int .i64 k) ∧ w = w' := by
  go_enter Try.func77, Try.ntmps77
  go_wp2
  go_loop [1, 5] (fun q i => q = .int .i64 k ∧ i = .int .i64 0) (fun _ _ => 0)
  case atStart => exact ⟨rfl, rfl⟩
  case round =>
    obtain ⟨rfl, rfl⟩ := hrel
    go_wp2
    go_ret
    exact ⟨rfl, rfl⟩
/-- the blocks of own lights. -/
def LtBl (A : Option Addr) (n c : Nat) (ys : List Lt) (b : Nat) : Prop := (Value.slice A n c).ownBlock = some b ∨ ∃ y ∈ ys, (ltv y).ownBlock = some b
theorem markLtA {B : Nat} (A : Option Addr) (n c k : Nat) (ys : List Lt) (w : World) (h : LtC B A n c ys w) (hs : n ≤ 1048576) (htot : mAt k ys n ≤ 90000000) (h1 : 1 ≤ k) :
    Calls Try.prog 77 #[.slice A n c, .int .i64 (k : Int)] w fun e w' => e = .returned (.int .i64 (mAt k ys n : Int)) ∧ Off (LtBl A n c ys) w w' ∧ LtC B A n c (msK k ys n) w' := by
  rcases h.row.2 with ⟨hv, h0⟩ | ⟨g, cap, cur, hv, hg, _⟩
  · injection hv with hA hN hC
    subst hA h0 hC
    have hy : ys = [] := List.length_eq_zero_iff.1 h.len
    subst hy
    refine (markLt_nil9 k w).mono ?_
    rintro e w' ⟨rfl, rfl⟩
    exact ⟨by rw [mAt_zero], Off.refl _ _, by rw [msK_zero]; exact h⟩
  · injection hv with hA _ hC
    subst hA hC
    refine (markLtK k w h hs htot h1 (fun j hj => mAt_mono k ys hj (by rw [h.len]; exact Nat.le_refl _)) (fun j => mAt_base k ys j)).mono ?_
    rintro e w' ⟨rfl, hoff, hown⟩
    exact ⟨rfl, hoff.wider (fun b hb => by
      rcases hb with hb | hb
      · exact .inl (by rw [hb]; rfl)
      · exact .inr hb), hown⟩
set_option maxHeartbeats 2000000 in
theorem eqPlR (A1 A2 A3 A1' A2' A3' : Option Addr) (n1 n2 n3 c1 c2 c3 c1' c2' c3' : Nat) (ss : List ByteArray) (fs : List Q4) (xs ys : List Lt) (w : World) (hn1 : ss.length = n1) (hs1 : n1 ≤ 1048576) (hn2 : fs.length = n2) (hs2 : n2 ≤ 1048576) (hs3 : n3 ≤ 1048576)
    (hr1 : Rd w w.heap.size A1 (ss.map Value.string)) (hr1' : Rd w w.heap.size A1' (ss.map Value.string)) (hr2 : Rd w w.heap.size A2 (fs.flatMap Q4.cells)) (hr2' : Rd w w.heap.size A2' (fs.flatMap Q4.cells)) (hx : LtR A3 n3 xs w) (hy : LtR A3' n3 ys w) (hd : xs.map Lt.d = ys.map Lt.d) :
    Calls Try.prog 23 #[.agg #[.slice A1 n1 c1, .slice A2 n2 c2, .slice A3 n3 c3], .agg #[.slice A1' n1 c1', .slice A2' n2 c2', .slice A3' n3 c3']] w
      fun e w' => e = .returned (.bool true) ∧ Below w.heap.size w w' := by
  have HN1 := Lib.hid hn1; have HN2 := Lib.hid hn2; clear hn1 hn2
  obtain ⟨W0, hW0⟩ : ∃ W0, (w.alloc (Obj.cells #[.slice A1 n1 c1, .slice A2 n2 c2, .slice A3 n3 c3] 46)).alloc (Obj.cells #[.slice A1' n1 c1', .slice A2' n2 c2', .slice A3' n3 c3'] 46) = W0 := ⟨_, rfl⟩
  have hb0 : Below w.heap.size w W0 := by rw [← hW0]; exact ((Below.refl _ _).alloc (Nat.le_refl _) _).alloc (by simp) _
  have k0 : W0.cell? ⟨w.heap.size, 0, none⟩ = some (.slice A1 n1 c1) := by rw [← hW0]; simp [go_sem]
  have k1 : W0.cell? ⟨w.heap.size, 1, none⟩ = some (.slice A2 n2 c2) := by rw [← hW0]; simp [go_sem]
  have k2 : W0.cell? ⟨w.heap.size, 2, none⟩ = some (.slice A3 n3 c3) := by rw [← hW0]; simp [go_sem]
  have k3 : W0.cell? ⟨w.heap.size + 1, 0, none⟩ = some (.slice A1' n1 c1') := by rw [← hW0]; simp [go_sem]
  have k4 : W0.cell? ⟨w.heap.size + 1, 1, none⟩ = some (.slice A2' n2 c2') := by rw [← hW0]; simp [go_sem]
  have k5 : W0.cell? ⟨w.heap.size + 1, 2, none⟩ = some (.slice A3' n3 c3') := by rw [← hW0]; simp [go_sem]
  have hz0 : w.heap.size + 1 < W0.heap.size := by rw [← hW0]; simp
  have CS := Lib.hid (eqNetR A1 A2 A1' A2' n1 n2 c1 c2 c1' c2' ss fs W0 HN1.out hs1 HN2.out hs2 (hr1.moved hb0) (hr1'.moved hb0) (hr2.moved hb0) (hr2'.moved hb0))
  have HB0 := Lib.hid hb0
  have HX := Lib.hid hx; have HYY := Lib.hid hy; have HD := Lib.hid hd
  clear hb0 hr1 hr1' hr2 hr2' hx hy hd
  go_enter Try.func23, Try.ntmps23
  go_wp2_with fail
  clear hW0
  refine CS.out.mono ?_
  rintro e w1 ⟨rfl, hb1⟩
  have l2 := (hb1.cell (p := ⟨w.heap.size, 2, none⟩) (by show w.heap.size < _; omega)).trans k2
  have l5 := (hb1.cell (p := ⟨w.heap.size + 1, 2, none⟩) hz0).trans k5
  have HB1 := Lib.hid (HB0.out.trans (hb1.mono HB0.out.size))
  have CF := Lib.hid (eqLtsR A3 A3' n3 c3 c3' xs ys w1 (HX.out.moved HB1.out) (HYY.out.moved HB1.out) HD.out hs3)
  clear hb1 k0 k1 k2 k3 k4 k5 hz0
  go_wp2_with fail
  refine CF.out.mono ?_
  rintro e w2 ⟨rfl, hb2⟩
  have HB2 := Lib.hid (HB1.out.trans (hb2.mono HB1.out.size))
  clear hb2
  go_wp2
  go_ret
  exact ⟨rfl, HB2.out⟩
/-- own rows of a plan lie apart. -/
theorem lt_apart {B B' E s n c m d : Nat} {A A' : Option Addr} {ys : List Lt} {xs : List Value} {w : World} (h : LtC B A n c ys w) (ho : w.ownsRow B' E s (.slice A' m d) m xs) (h1 : E ≠ 120) (h2 : E ≠ 3) : ∀ g, (Value.slice A' m d).ownBlock = some g → ¬ LtBl A n c ys g := fun g hg hb => by
  rcases hb with hb | ⟨y, hy, hb⟩
  · exact own_type_apart ho h.row h1 g hg hb
  · exact own_type_apart ho (h.own y hy).2.2 h2 g hg hb
theorem LtC.offV {S : Nat → Prop} {B : Nat} {A : Option Addr} {n c : Nat} {ys : List Lt} {w w' : World} (h : LtC B A n c ys w) (hoff : Off S w w') (hs : ∀ b, LtBl A n c ys b → ¬ S b) : LtC B A n c ys w' :=
  ⟨h.len, own_offV h.row hoff (fun g hg => hs g (.inl hg)), fun y hy => (h.own y hy).offV hoff (fun g hg => hs g (.inr ⟨y, hy, hg⟩)), h.apart⟩
set_option maxHeartbeats 2000000 in
theorem markPlV (A1 A2 A3 : Option Addr) (n1 n2 n3 c1 c2 c3 : Nat) (ss : List ByteArray) (fs : List Q4) (ys : List Lt) (w : World) {B : Nat} (ho1 : w.ownsRow B 9 1 (.slice A1 n1 c1) n1 (ss.map Value.string)) (hs1 : n1 ≤ 1048576) (ho2 : w.ownsRow B 35 4 (.slice A2 n2 c2) n2 (fs.flatMap Q4.cells)) (hs2 : n2 ≤ 1048576)
    (h3 : LtC B A3 n3 c3 ys w) (hs3 : n3 ≤ 1048576) (htot : mAt (1 + n1 + 4 * n2) ys n3 ≤ 90000000) :
    Calls Try.prog 24 #[.agg #[.slice A1 n1 c1, .slice A2 n2 c2, .slice A3 n3 c3], .int .i64 1] w fun e w' => e = .returned (.int .i64 (mAt (1 + n1 + 4 * n2) ys n3 : Int)) ∧
      Off (fun b => ((Value.slice A1 n1 c1).ownBlock = some b ∨ (Value.slice A2 n2 c2).ownBlock = some b) ∨ LtBl A3 n3 c3 ys b) w w' ∧
      w'.ownsRow B 9 1 (.slice A1 n1 c1) n1 ((mtxs 1 n1).map Value.string) ∧ w'.ownsRow B 35 4 (.slice A2 n2 c2) n2 ((marks (1 + n1) (4 * n2)).map (Value.int .i64)) ∧ LtC B A3 n3 c3 (msK (1 + n1 + 4 * n2) ys n3) w' := by
  obtain ⟨W0, hW0⟩ : ∃ W0, w.alloc (Obj.cells #[.slice A1 n1 c1, .slice A2 n2 c2, .slice A3 n3 c3] 46) = W0 := ⟨_, rfl⟩
  have hb0 : Below w.heap.size w W0 := by rw [← hW0]; exact (Below.refl _ _).alloc (Nat.le_refl _) _
  have k0 : W0.cell? ⟨w.heap.size, 0, none⟩ = some (.slice A1 n1 c1) := by rw [← hW0]; simp [go_sem]
  have k1 : W0.cell? ⟨w.heap.size, 1, none⟩ = some (.slice A2 n2 c2) := by rw [← hW0]; simp [go_sem]
  have k2 : W0.cell? ⟨w.heap.size, 2, none⟩ = some (.slice A3 n3 c3) := by rw [← hW0]; simp [go_sem]
  have hz0 : w.heap.size < W0.heap.size := by rw [← hW0]; simp
  have HA1 := Lib.hid (lt_apart h3 ho1 (by decide) (by decide)); have HA2 := Lib.hid (lt_apart h3 ho2 (by decide) (by decide))
  have HLT : Hid (∀ b, ((Value.slice A1 n1 c1).ownBlock = some b ∨ (Value.slice A2 n2 c2).ownBlock = some b) → b < w.heap.size) := Lib.hid fun b hb => by
    rcases hb with hb | hb
    · exact (ho1.lt b hb).2
    · exact (ho2.lt b hb).2
  have CS := Lib.hid (markNetV A1 A2 n1 n2 c1 c2 ss fs W0 (ownB ho1 hb0) hs1 (ownB ho2 hb0) hs2)
  have HC := Lib.hid (h3.moved hb0)
  have HB0 := Lib.hid hb0
  clear hb0 ho1 ho2 h3
  obtain ⟨p, hp⟩ : ∃ p, 1 + n1 + 4 * n2 = p := ⟨_, rfl⟩
  rw [hp] at CS htot ⊢
  have hp1 : 1 ≤ p := by omega
  have hp2 : p ≤ 10000000 := by omega
  obtain ⟨q, hq⟩ : ∃ q, mAt p ys n3 = q := ⟨_, rfl⟩
  rw [hq]
  have HQ := Lib.hid hq
  have HTOT := Lib.hid htot
  clear hp hq htot
  go_enter Try.func24, Try.ntmps24
  go_wp2_with fail
  clear hW0
  refine CS.out.mono ?_
  rintro e w1 ⟨rfl, hoff, hown1, hown2⟩
  have l2 := (hoff.cell (p := ⟨w.heap.size, 2, none⟩) hz0 (fun h => by have h9 : w.heap.size < w.heap.size := HLT.out _ h; omega)).trans k2
  have HO1 := Lib.hid hown1; have HO2 := Lib.hid hown2
  have hc1 := HC.out.offV hoff (fun b hb h => by
    rcases h with h | h
    · exact HA1.out b h hb
    · exact HA2.out b h hb)
  have CF := Lib.hid (markLtA A3 n3 c3 p ys w1 hc1 hs3 HTOT.out hp1)
  rw [HQ.out] at CF
  have HF1 := Lib.hid ((Off.ofBelow HB0.out (S := fun b => ((Value.slice A1 n1 c1).ownBlock = some b ∨ (Value.slice A2 n2 c2).ownBlock = some b) ∨ LtBl A3 n3 c3 ys b)).trans (hoff.wider fun b h => .inl h))
  clear hoff hown1 hown2 hc1 k0 k1 k2 hz0
  go_wp2_with fail
  refine CF.out.mono ?_
  rintro e w2 ⟨rfl, hoff2, hc2⟩
  have HF2 := Lib.hid (HF1.out.trans (hoff2.wider fun b h => .inr h))
  have HO12 := Lib.hid (own_offV HO1.out hoff2 (fun g hg => HA1.out g hg))
  have HO22 := Lib.hid (own_offV HO2.out hoff2 (fun g hg => HA2.out g hg))
  have HC2 := Lib.hid hc2
  clear hoff2 hc2 l2
  go_wp2
  go_ret
  exact ⟨rfl, HF2.out, HO12.out, HO22.out, HC2.out⟩
set_option maxHeartbeats 2000000 in
theorem heldPlV (A1 A2 A3 : Option Addr) (n1 n2 n3 c1 c2 c3 : Nat) (ys : List Lt) (w : World) (hn3 : ys.length = n3) (hr1 : Rd w w.heap.size A1 ((mtxs 1 n1).map Value.string)) (hs1 : n1 ≤ 1048576) (hr2 : Rd w w.heap.size A2 ((marks (1 + n1) (4 * n2)).map (Value.int .i64))) (hs2 : n2 ≤ 1048576)
    (h3 : LtR A3 n3 (msK (1 + n1 + 4 * n2) ys n3) w) (hs3 : n3 ≤ 1048576) (htot : mAt (1 + n1 + 4 * n2) ys n3 ≤ 90000000) :
    Calls Try.prog 34 #[.agg #[.slice A1 n1 c1, .slice A2 n2 c2, .slice A3 n3 c3], .int .i64 1] w fun e w' => e = .returned (.int .i64 (mAt (1 + n1 + 4 * n2) ys n3 : Int)) ∧ Below w.heap.size w w' := by
  obtain ⟨W0, hW0⟩ : ∃ W0, w.alloc (Obj.cells #[.slice A1 n1 c1, .slice A2 n2 c2, .slice A3 n3 c3] 46) = W0 := ⟨_, rfl⟩
  have hb0 : Below w.heap.size w W0 := by rw [← hW0]; exact (Below.refl _ _).alloc (Nat.le_refl _) _
  have k0 : W0.cell? ⟨w.heap.size, 0, none⟩ = some (.slice A1 n1 c1) := by rw [← hW0]; simp [go_sem]
  have k1 : W0.cell? ⟨w.heap.size, 1, none⟩ = some (.slice A2 n2 c2) := by rw [← hW0]; simp [go_sem]
  have k2 : W0.cell? ⟨w.heap.size, 2, none⟩ = some (.slice A3 n3 c3) := by rw [← hW0]; simp [go_sem]
  have hz0 : w.heap.size < W0.heap.size := by rw [← hW0]; simp
  have CS := Lib.hid (heldNetV A1 A2 n1 n2 c1 c2 W0 (hr1.moved hb0) hs1 (hr2.moved hb0) hs2)
  have HC := Lib.hid h3; have HN3 := Lib.hid hn3
  have HB0 := Lib.hid hb0
  clear hb0 hr1 hr2 h3 hn3
  obtain ⟨p, hp⟩ : ∃ p, 1 + n1 + 4 * n2 = p := ⟨_, rfl⟩
  rw [hp] at CS HC htot ⊢
  obtain ⟨q, hq⟩ : ∃ q, mAt p ys n3 = q := ⟨_, rfl⟩
  rw [hq]
  have HQ := Lib.hid hq
  have HTOT := Lib.hid htot
  clear hp hq htot
  have hp3 : ¬ ((p : Int) < 0) := by omega
  have hp4 : decide ((p : Int) < 0) = false := decide_eq_false hp3
  have hq3 : ¬ ((q : Int) < 0) := by omega
  have hq4 : decide ((q : Int) < 0) = false := decide_eq_false hq3
  go_enter Try.func34, Try.ntmps34
  go_wp2_with fail
  clear hW0
  refine CS.out.mono ?_
  rintro e w1 ⟨rfl, hb1⟩
  have l2 := (hb1.cell (p := ⟨w.heap.size, 2, none⟩) hz0).trans k2
  have HB1 := Lib.hid (HB0.out.trans (hb1.mono HB0.out.size))
  have CF := Lib.hid (heldLtR A3 n3 c3 p ys w1 HN3.out (HC.out.moved HB1.out) hs3 HTOT.out)
  rw [HQ.out] at CF
  clear hb1 k0 k1 k2 hz0
  go_wp2_with fail
  refine CF.out.mono ?_
  rintro e w2 ⟨rfl, rfl⟩
  go_wp2
  go_ret
  exact ⟨rfl, HB1.out⟩
end Go.Proofs.Ytkpendpjdemknaa
