/- Lights in memory of the call's own: compared, marked with the marks' values, held; whole plans. No condition but those typed. -/
import Derived.Test.YtkpendpjdemknaaLtC
import Derived.Test.YtkpendpjdemknaaNtB
import Derived.Test.YtkpendpjdemknaaRtA
import Derived.Test.YtkpendpjdemknaaGC
namespace Go.Proofs.Ytkpendpjdemknaa
open Go.ChangeShapes Go.WideShapes Go.ChangeAt Go.RowKit
theorem Rd.ltA {w : World} {B : Nat} {A : Option Addr} {xs : List Lt} (h : Rd w B A (xs.flatMap Lt.cells)) {k : Nat} (hk : k < xs.length) :
    ∃ ad, A = some ad ∧ ad.block < B ∧ w.cell? (ad.add (k * 5)) = some (.int .i64 xs[k].p0) ∧ w.cell? ⟨(ad.add (k * 5)).block, (ad.add (k * 5)).off + 1, none⟩ = some (.int .i64 xs[k].p1) ∧ w.cell? ⟨(ad.add (k * 5)).block, (ad.add (k * 5)).off + 2, none⟩ = some (.slice xs[k].A xs[k].n xs[k].c) ∧ w.cell? ⟨(ad.add (k * 5)).block, (ad.add (k * 5)).off + 3, none⟩ = some (.int .i64 xs[k].q0) ∧ w.cell? ⟨(ad.add (k * 5)).block, (ad.add (k * 5)).off + 4, none⟩ = some (.int .i64 xs[k].q1) := by
  have g := fun j hj => flat_get Lt.cells 5 xs (fun _ _ => rfl) k j hj
  rw [List.getElem?_eq_getElem hk] at g
  obtain ⟨ad, e, hb, h0⟩ := h (k * 5 + 0) _ (g 0 (by omega))
  obtain ⟨ad1, e1, _, h1⟩ := h (k * 5 + 1) _ (g 1 (by omega))
  obtain ⟨ad2, e2, _, h2⟩ := h (k * 5 + 2) _ (g 2 (by omega))
  obtain ⟨ad3, e3, _, h3⟩ := h (k * 5 + 3) _ (g 3 (by omega))
  obtain ⟨ad4, e4, _, h4⟩ := h (k * 5 + 4) _ (g 4 (by omega))
  subst e
  injection e1 with e1; injection e2 with e2; injection e3 with e3; injection e4 with e4
  subst e1 e2 e3 e4
  rw [add_next] at h1 h2 h3 h4
  exact ⟨_, rfl, hb, h0, h1, h2, h3, h4⟩
set_option maxHeartbeats 2000000 in
theorem eqLtA (p0 p1 q0 q1 : Int) (A A' : Option Addr) (n c c' : Nat) (zs : List Int) (w : World) (hn : zs.length = n) (hs : n ≤ 1048576) (hr : Rd w w.heap.size A (zs.map (Value.int .i64))) (hr' : Rd w w.heap.size A' (zs.map (Value.int .i64))) :
    Calls Try.prog 129 #[.agg #[.int .i64 p0, .int .i64 p1, .slice A n c, .int .i64 q0, .int .i64 q1], .agg #[.int .i64 p0, .int .i64 p1, .slice A' n c', .int .i64 q0, .int .i64 q1]] w fun e w' => e = .returned (.bool true) ∧ Below w.heap.size w w' := by
  have hb0 := ((Below.refl w.heap.size w).alloc (Nat.le_refl _) (Obj.cells #[.int .i64 p0, .int .i64 p1, .slice A n c, .int .i64 q0, .int .i64 q1] 120)).alloc (by simp) (Obj.cells #[.int .i64 p0, .int .i64 p1, .slice A' n c', .int .i64 q0, .int .i64 q1] 120)
  have HB := Lib.hid hb0
  have CE := Lib.hid (eqRtA p1 A A' n c c' zs _ hn hs (hr.moved hb0) (hr'.moved hb0))
  have hz0 : ∀ W : World, Below (w.heap.size + 1 + 1) ((w.alloc (Obj.cells #[.int .i64 p0, .int .i64 p1, .slice A n c, .int .i64 q0, .int .i64 q1] 120)).alloc (Obj.cells #[.int .i64 p0, .int .i64 p1, .slice A' n c', .int .i64 q0, .int .i64 q1] 120)) W → True := fun _ _ => trivial
  clear hz0 hn hr hr' hb0
  go_enter Try.func129, Try.ntmps129
  go_wp2_with fail
  obtain ⟨W0, hW0⟩ : ∃ W0, (w.alloc (Obj.cells #[.int .i64 p0, .int .i64 p1, .slice A n c, .int .i64 q0, .int .i64 q1] 120)).alloc (Obj.cells #[.int .i64 p0, .int .i64 p1, .slice A' n c', .int .i64 q0, .int .i64 q1] 120) = W0 := ⟨_, rfl⟩
  rw [hW0] at CE HB ⊢
  have k0_3 : W0.cell? ⟨w.heap.size, 3, none⟩ = some (.int .i64 q0) := by rw [← hW0]; simp [go_sem]
  have k0_4 : W0.cell? ⟨w.heap.size, 4, none⟩ = some (.int .i64 q1) := by rw [← hW0]; simp [go_sem]
  have k1_3 : W0.cell? ⟨w.heap.size + 1, 3, none⟩ = some (.int .i64 q0) := by rw [← hW0]; simp [go_sem]
  have k1_4 : W0.cell? ⟨w.heap.size + 1, 4, none⟩ = some (.int .i64 q1) := by rw [← hW0]; simp [go_sem]
  have hz : w.heap.size + 1 < W0.heap.size := by rw [← hW0]; simp
  clear hW0
  refine CE.out.mono ?_
  rintro e w1 ⟨rfl, hb1⟩
  have HB1 := Lib.hid (HB.out.trans (hb1.mono HB.out.size))
  have l0_3 := (hb1.cell (p := ⟨w.heap.size, 3, none⟩) (by show w.heap.size < _; omega)).trans k0_3
  have l0_4 := (hb1.cell (p := ⟨w.heap.size, 4, none⟩) (by show w.heap.size < _; omega)).trans k0_4
  have l1_3 := (hb1.cell (p := ⟨w.heap.size + 1, 3, none⟩) (by show w.heap.size + 1 < _; omega)).trans k1_3
  have l1_4 := (hb1.cell (p := ⟨w.heap.size + 1, 4, none⟩) (by show w.heap.size + 1 < _; omega)).trans k1_4
  clear hb1
  go_wp2_with fail
  refine (eqBlk q0 q1 _).mono ?_
  rintro e w2 ⟨rfl, hb2⟩
  have HB2 := Lib.hid (HB1.out.trans (hb2.mono HB1.out.size)); clear HB1 hb2; have HB1 := HB2; clear HB2
  go_wp2
  go_ret
  exact ⟨rfl, HB1.out⟩
theorem eqLt_nil9 (A A' : Option Addr) (c c' : Nat) (w : World) :
    Calls Try.prog 75 #[.slice A 0 c, .slice A' 0 c'] w fun e w' => e = .returned (.bool true) ∧ Below w.heap.size w w' := by
  go_enter Try.func75, Try.ntmps75
  go_wp2
  go_loop [5] (fun i => i = .int .i64 0) (fun _ => 0)
  case atStart => exact rfl
  case round =>
    obtain rfl := hrel
    go_wp2
    go_ret
    exact ⟨rfl, Below.refl _ _⟩
/-- lights that are read: the row and the row of each. -/
structure LtR (A : Option Addr) (n : Nat) (ys : List Lt) (w : World) : Prop where
  len : ys.length = n
  rd : Rd w w.heap.size A (ys.flatMap Lt.cells)
  at_ : ∀ y ∈ ys, LtAt w y
theorem LtR.moved {A : Option Addr} {n : Nat} {ys : List Lt} {w w' : World} (h : LtR A n ys w) (hb : Below w.heap.size w w') : LtR A n ys w' := ⟨h.len, h.rd.moved hb, fun y hy => (h.at_ y hy).moved hb⟩
theorem LtC.toR {B : Nat} {A : Option Addr} {n c : Nat} {ys : List Lt} {w : World} (h : LtC B A n c ys w) : LtR A n ys w := ⟨h.len, rdOwnA h.row, fun y hy => (h.own y hy).at_⟩
set_option maxRecDepth 100000 in
set_option maxHeartbeats 4000000 in
theorem eqLtsR (A A' : Option Addr) (n c c' : Nat) (xs ys : List Lt) (w : World) (hx : LtR A n xs w) (hy : LtR A' n ys w) (hd : xs.map Lt.d = ys.map Lt.d) (hs : n ≤ 1048576) :
    Calls Try.prog 75 #[.slice A n c, .slice A' n c'] w fun e w' => e = .returned (.bool true) ∧ Below w.heap.size w w' := by
  by_cases h0 : n = 0
  · subst h0; exact eqLt_nil9 A A' c c' w
  obtain ⟨ad, rfl, hlt1, -⟩ := hx.rd.ltA (show 0 < xs.length by have := hx.len; omega)
  obtain ⟨ad', rfl, hlt2, -⟩ := hy.rd.ltA (show 0 < ys.length by have := hy.len; omega)
  have HX := Lib.hid hx; have HYY := Lib.hid hy; have HD := Lib.hid hd
  clear hx hy hd h0
  go_enter Try.func75, Try.ntmps75
  go_wp2
  go_loopw [5] (fun i wr => ∃ k : Nat, k ≤ n ∧ i = .int .i64 k ∧ Below w.heap.size w wr) (fun i _ => n - (intOf i).toNat)
  case atStart => exact ⟨0, Nat.zero_le _, rfl, Below.refl _ _⟩
  case round =>
    obtain ⟨k, hk, rfl, hb⟩ := hrel
    by_cases hlt : k < n
    case neg =>
      go_wp2
      go_ret
      exact ⟨rfl, hb⟩
    case pos =>
    have hkx : k < xs.length := by have := HX.out.len; omega
    have hky : k < ys.length := by have := HYY.out.len; omega
    have hbs := hb.size
    obtain ⟨ad1, e1, hg, c0, c1, c2, c3, c4⟩ := (HX.out.moved hb).rd.ltA hkx
    obtain ⟨ad2, e2, hg', d0, d1, d2, d3, d4⟩ := (HYY.out.moved hb).rd.ltA hky
    injection e1 with e1; injection e2 with e2
    subst e1 e2
    have hox := (HX.out.moved hb).at_ xs[k] (List.getElem_mem hkx)
    have hoy := (HYY.out.moved hb).at_ ys[k] (List.getElem_mem hky)
    have hde : xs[k].d = ys[k].d := by
      have h9 := congrArg (fun l => l[k]?) HD.out
      simpa [hkx, hky] using h9
    have hsm := Lt_same hde
    generalize xs[k]'hkx = x at c0 c1 c2 c3 c4 hox hsm
    generalize ys[k]'hky = y at d0 d1 d2 d3 d4 hoy hsm
    obtain ⟨p0, p1, A1, m, cc1, zs, q0, q1⟩ := x
    obtain ⟨p0', p1', A2, n1', cc2, zs', q0', q1'⟩ := y
    obtain ⟨e3, e4, ho1⟩ := hox
    obtain ⟨e7, e8, ho2⟩ := hoy
    simp only at e3 e4 ho1 e7 e8 ho2 hsm c0 c1 c2 c3 c4 d0 d1 d2 d3 d4
    obtain ⟨rfl, rfl, rfl, rfl, rfl⟩ := hsm
    have em : m = n1' := by rw [← e3, ← e7]
    subst em
    have HZN := Lib.hid e3; have HZS := Lib.hid e4
    have HZ1 := Lib.hid ho1
    have HZ2 := Lib.hid ho2
    have hga : (ad.add (k * 5)).block < wr.heap.size := by rw [addBlock]; exact hg
    have hgb : (ad'.add (k * 5)).block < wr.heap.size := by rw [addBlock]; exact hg'
    have HBR := Lib.hid hb
    clear e3 e4 e7 e8 ho1 ho2 hde hkx hky hbs
    go_wp2
    have hbd : Bel wr wr.drew := Bel.of (Below.refl _ _).drew
    go_region_held3 (fun U => U.cell? (ad.add (k * 5)) = some (.int .i64 p0) ∧ U.cell? ⟨(ad.add (k * 5)).block, (ad.add (k * 5)).off + 1, none⟩ = some (.int .i64 p1) ∧ U.cell? ⟨(ad.add (k * 5)).block, (ad.add (k * 5)).off + 2, none⟩ = some (.slice A1 m cc1) ∧ U.cell? ⟨(ad.add (k * 5)).block, (ad.add (k * 5)).off + 3, none⟩ = some (.int .i64 q0) ∧ U.cell? ⟨(ad.add (k * 5)).block, (ad.add (k * 5)).off + 4, none⟩ = some (.int .i64 q1) ∧ U.cell? (ad'.add (k * 5)) = some (.int .i64 p0) ∧ U.cell? ⟨(ad'.add (k * 5)).block, (ad'.add (k * 5)).off + 1, none⟩ = some (.int .i64 p1) ∧ U.cell? ⟨(ad'.add (k * 5)).block, (ad'.add (k * 5)).off + 2, none⟩ = some (.slice A2 m cc2) ∧ U.cell? ⟨(ad'.add (k * 5)).block, (ad'.add (k * 5)).off + 3, none⟩ = some (.int .i64 q0) ∧ U.cell? ⟨(ad'.add (k * 5)).block, (ad'.add (k * 5)).off + 4, none⟩ = some (.int .i64 q1) ∧ Bel wr U)
      (first | (go_keep; done) | (go_split_ands; (refine ⟨?_, ?_, ?_, ?_, ?_, ?_, ?_, ?_, ?_, ?_, ?_⟩ <;> first | assumption | exact Bel.step (by assumption) hb2 | exact (belAtA (by assumption) hb2 hga).trans (by assumption) | exact (belAtA (by assumption) hb2 hgb).trans (by assumption) | exact (Bel.at_ (by assumption) hb2 hga).trans (by assumption) | exact (Bel.at_ (by assumption) hb2 hgb).trans (by assumption))))
      (first | (go_at_call 129; go_split_ands; refine (eqLtA p0 p1 q0 q1 A1 A2 m cc1 cc2 zs _ HZN.out HZS.out (HZ1.out.moved (Bel.out (by assumption))) (HZ2.out.moved (Bel.out (by assumption)))).mono ?_; rintro e w2 ⟨rfl, hb2⟩))
    all_goals
      go_split_ands
      have HB3 := Lib.hid (HBR.out.trans ((Bel.out (by assumption)).mono HBR.out.size))
      go_wp2
      go_roundw
      case rel => exact ⟨k + 1, by omega, by go_num, HB3.out⟩
      case measure => simp [intOf]; omega
/-- a light with marks from v on. -/
def ltM (v : Nat) (y : Lt) : Lt := ⟨(v : Int), ((v + 1 : Nat) : Int), y.A, y.n, y.c, marks (v + 2) y.n, ((v + 2 + y.n : Nat) : Int), ((v + 3 + y.n : Nat) : Int)⟩
def mAt (k : Nat) (ys : List Lt) (j : Nat) : Nat := k + ((ys.take j).map fun y => 4 + y.n).sum
theorem mAt_zero (k : Nat) (ys : List Lt) : mAt k ys 0 = k := by unfold mAt; simp
theorem mAt_succ (k : Nat) (ys : List Lt) {j : Nat} (hj : j < ys.length) : mAt k ys (j + 1) = mAt k ys j + (4 + (ys[j]).n) := by
  unfold mAt; rw [List.take_succ_eq_append_getElem hj, List.map_append, List.sum_append]; simp; omega
def msK (k : Nat) (ys : List Lt) (j : Nat) : List Lt := ys.mapIdx fun i y => if i < j then ltM (mAt k ys i) y else y
theorem msK_len (k : Nat) (ys : List Lt) (j : Nat) : (msK k ys j).length = ys.length := by unfold msK; simp
theorem msK_zero (k : Nat) (ys : List Lt) : msK k ys 0 = ys := by
  unfold msK
  refine List.ext_getElem (by simp) fun i h1 h2 => ?_
  simp
theorem msK_get (k : Nat) (ys : List Lt) (j : Nat) {i : Nat} (h : i < ys.length) : (msK k ys j)[i]'(by rw [msK_len]; exact h) = if i < j then ltM (mAt k ys i) ys[i] else ys[i] := by
  unfold msK; simp
theorem msK_succ (k : Nat) (ys : List Lt) {j : Nat} (hj : j < ys.length) : msK k ys (j + 1) = (msK k ys j).set j (ltM (mAt k ys j) ys[j]) := by
  refine List.ext_getElem (by rw [List.length_set, msK_len, msK_len]) fun i h1 h2 => ?_
  have hi : i < ys.length := by rw [msK_len] at h1; exact h1
  rw [msK_get k ys (j + 1) hi, List.getElem_set]
  by_cases hij : j = i
  · subst hij; rw [if_pos (by omega), if_pos rfl]
  · rw [if_neg hij, msK_get k ys j hi]
    by_cases hlt : i < j
    · rw [if_pos (by omega), if_pos hlt]
    · rw [if_neg (by omega), if_neg hlt]
theorem lt_skip (q : Lt) (l : List Value) (k j : Nat) (v : Value) : (q.cells ++ l).set ((k + 1) * 5 + j) v = q.cells ++ l.set (k * 5 + j) v := by
  have e : q.cells.length = 5 := rfl
  rw [List.set_append_right _ _ (by omega), e]
  congr 2
  omega
theorem lt_skip0 (q : Lt) (l : List Value) (k : Nat) (v : Value) : (q.cells ++ l).set ((k + 1) * 5) v = q.cells ++ l.set (k * 5) v := lt_skip q l k 0 v
theorem setsLt : ∀ (ys : List Lt) (k : Nat) (hk : k < ys.length) (y' : Lt), y'.A = ys[k].A → y'.n = ys[k].n → y'.c = ys[k].c → (((((ys.flatMap Lt.cells).set (k * 5) (.int .i64 y'.p0)).set (k * 5 + 1) (.int .i64 y'.p1)).set (k * 5 + 3) (.int .i64 y'.q0)).set (k * 5 + 4) (.int .i64 y'.q1)) = (ys.set k y').flatMap Lt.cells
  | q :: r, 0, _, y', h1, h2, h3 => by
    simp only [List.getElem_cons_zero] at h1 h2 h3
    simp [Lt.cells, h1, h2, h3]
  | q :: r, k + 1, h, y', h1, h2, h3 => by
    have ih := setsLt r k (by simpa using h) y' (by simpa using h1) (by simpa using h2) (by simpa using h3)
    rw [List.flatMap_cons, lt_skip0, lt_skip, lt_skip, lt_skip, ih]
    simp
theorem LtC.setN {B : Nat} {A : Option Addr} {n c : Nat} {zs : List Lt} {w w' : World} (h : LtC B A n c zs w) {j : Nat} (hj : j < zs.length) {y' : Lt} (h1 : y'.A = zs[j].A) (h2 : y'.n = zs[j].n) (h3 : y'.c = zs[j].c)
    (hrow : w'.ownsRow B 120 5 (.slice A n c) n ((zs.set j y').flatMap Lt.cells)) (hy : LtO B w' y') (hoth : ∀ i (hi : i < zs.length), i ≠ j → LtO B w' zs[i]) : LtC B A n c (zs.set j y') w' := by
  have hv : ltv y' = ltv zs[j] := by unfold ltv; rw [h1, h2, h3]
  refine ⟨by rw [List.length_set]; exact h.len, hrow, fun y hym => ?_, ?_⟩
  · obtain ⟨i, hi, e⟩ := List.getElem_of_mem hym
    rw [List.getElem_set] at e
    by_cases hij : j = i
    · rw [if_pos hij] at e; rw [← e]; exact hy
    · rw [if_neg hij] at e; rw [← e]; exact hoth i (by simpa using hi) (fun e => hij e.symm)
  · rw [List.pairwise_iff_getElem]
    intro a b ha hb hab
    have ha' : a < zs.length := by simpa using ha
    have hb' : b < zs.length := by simpa using hb
    have hp := List.pairwise_iff_getElem.1 h.apart a b ha' hb' hab
    rw [List.getElem_set, List.getElem_set]
    by_cases e1 : j = a
    · subst e1; rw [if_pos rfl, if_neg (by omega), hv]; exact hp
    · by_cases e2 : j = b
      · subst e2; rw [if_neg e1, if_pos rfl, hv]; exact hp
      · rw [if_neg e1, if_neg e2]; exact hp
theorem LtO.offV {S : Nat → Prop} {B : Nat} {w w' : World} {y : Lt} (h : LtO B w y) (hoff : Off S w w') (hs : ∀ g, (ltv y).ownBlock = some g → ¬ S g) : LtO B w' y := ⟨h.1, h.2.1, own_offV h.2.2 hoff hs⟩
theorem off1 {w : World} {g o : Nat} (v : Value) : Off (fun b => b = g) w (w.setCell ⟨g, o, none⟩ v) := Off.set_ (Off.refl (fun b => b = g) w) (p := ⟨g, o, none⟩) rfl v
set_option maxRecDepth 100000 in
set_option maxHeartbeats 4000000 in
theorem markLtK {B g n c : Nat} {ys : List Lt} (k : Nat) (w : World) (h : LtC B (some ⟨g, 0, none⟩) n c ys w) (hs : n ≤ 1048576) (htot : mAt k ys n ≤ 90000000) (h1 : 1 ≤ k) (hmono : ∀ j, j ≤ n → mAt k ys j ≤ mAt k ys n) (hk1 : ∀ j, k ≤ mAt k ys j) :
    Calls Try.prog 77 #[.slice (some ⟨g, 0, none⟩) n c, .int .i64 (k : Int)] w fun e w' => e = .returned (.int .i64 (mAt k ys n : Int)) ∧ Off (fun b => b = g ∨ ∃ y ∈ ys, (ltv y).ownBlock = some b) w w' ∧ LtC B (some ⟨g, 0, none⟩) n c (msK k ys n) w' := by
  have HX := Lib.hid h; have HLN := Lib.hid h.len
  have HMO := Lib.hid hmono; have HK1 := Lib.hid hk1
  obtain ⟨R, hR⟩ : ∃ R, mAt k ys n = R := ⟨_, rfl⟩
  rw [hR] at htot ⊢
  have HRE := Lib.hid hR
  clear h hmono hk1 hR
  go_enter Try.func77, Try.ntmps77
  go_wp2
  go_loopw [1, 5] (fun z i wr => ∃ (j v : Nat), j ≤ n ∧ i = .int .i64 j ∧ z = .int .i64 (v : Int) ∧ Hid (v = mAt k ys j) ∧ Hid (LtC B (some ⟨g, 0, none⟩) n c (msK k ys j) wr) ∧ Hid (Off (fun b => b = g ∨ ∃ y ∈ ys, (ltv y).ownBlock = some b) w wr)) (fun _ i _ => n - (intOf i).toNat)
  case atStart => exact ⟨0, k, Nat.zero_le _, rfl, rfl, Lib.hid (mAt_zero k ys).symm, Lib.hid (by rw [msK_zero]; exact HX.out), Lib.hid (Off.refl _ _)⟩
  case round =>
    obtain ⟨j, v, hj, rfl, rfl, HV, HC, HF⟩ := hrel
    by_cases hlt : j < n
    case neg =>
      obtain rfl : j = n := by omega
      obtain rfl : v = R := by rw [HV.out, HRE.out]
      clear hlt
      go_wp2
      go_ret
      exact ⟨rfl, HF.out, HC.out⟩
    case pos =>
    have hjl : j < ys.length := by have := HLN.out; omega
    have hjm : j < (msK k ys j).length := by rw [msK_len]; exact hjl
    have hge : (msK k ys j)[j]'hjm = ys[j] := by rw [msK_get k ys j hjl, if_neg (by omega)]
    obtain ⟨y, hy⟩ : ∃ y, ys[j]'hjl = y := ⟨_, rfl⟩
    have hmem : y ∈ ys := by rw [← hy]; exact List.getElem_mem hjl
    rw [hy] at hge
    have hV2 : Hid (v + (4 + y.n) = mAt k ys (j + 1)) := Lib.hid (by rw [mAt_succ k ys hjl, hy, HV.out])
    have hvb : v + (4 + y.n) ≤ 90000000 := by rw [hV2.out]; have := HMO.out (j + 1) (by omega); have := HRE.out; omega
    have hv1 : 1 ≤ v := by rw [HV.out]; have := HK1.out j; omega
    have hoy : LtO B wr y := by have := HC.out.own _ (List.getElem_mem hjm); rw [hge] at this; exact this
    obtain ⟨_, c0, c1, c2, c3, c4⟩ := (HC.out.rd).ltc hjm
    rw [Nat.zero_add, hge] at c0 c1 c2 c3 c4
    have z0 := HC.out.row.frozenAt (j * 5)
    have z1 := HC.out.row.frozenAt (j * 5 + 1)
    have HAP := Lib.hid (own_type_apart hoy.2.2 HC.out.row (by decide))
    obtain ⟨W1, hW1⟩ : ∃ W1, (wr.setCell ⟨g, j * 5, none⟩ (.int .i64 (v : Int))).setCell ⟨g, j * 5 + 1, none⟩ (.int .i64 ((v + 1 : Nat) : Int)) = W1 := ⟨_, rfl⟩
    have hoffA : Off (fun b => b = g) wr W1 := by rw [← hW1]; exact (off1 _).trans (off1 _)
    have hrow1 : W1.ownsRow B 120 5 (.slice (some ⟨g, 0, none⟩) n c) n ((((msK k ys j).flatMap Lt.cells).set (j * 5) (.int .i64 (v : Int))).set (j * 5 + 1) (.int .i64 ((v + 1 : Nat) : Int))) := by rw [← hW1]; exact ((HC.out.row.stored (j * 5) (.int .i64 (v : Int))).1.stored (j * 5 + 1) (.int .i64 ((v + 1 : Nat) : Int))).1
    have hoy1 : LtO B W1 y := hoy.offV hoffA (fun q hq e => by subst e; exact HAP.out _ hq rfl)
    have hf2 : ((msK k ys j).flatMap Lt.cells)[j * 5 + 2]? = some (.slice y.A y.n y.c) := by
      have h9 := flat_get Lt.cells 5 (msK k ys j) (fun _ _ => rfl) j 2 (by omega)
      rw [List.getElem?_eq_getElem hjm, hge] at h9; exact h9
    have w2c : W1.cell? ⟨g, j * 5 + 1 + 1, none⟩ = some (.slice y.A y.n y.c) := by
      have h9 := hrow1.cellAt (j * 5 + 2) (by have := HLN.out; omega)
      rw [List.getElem?_set_ne (by omega), List.getElem?_set_ne (by omega), hf2] at h9; exact h9
    have w2d : W1.cell? ⟨g, j * 5 + 2, none⟩ = some (.slice y.A y.n y.c) := w2c
    have ev : ((v + 2 : Nat) : Int) = (v : Int) + 1 + 1 := by omega
    have CM := Lib.hid (markIntA9 y.A y.n y.c (v + 2) y.zs W1 hoy1.2.2 hoy1.2.1 (by omega) (by omega))
    rw [ev] at CM
    have HY1 := Lib.hid hoy1; have HROW1 := Lib.hid hrow1; have HOFA := Lib.hid hoffA
    have HAP1 := Lib.hid (own_type_apart hoy1.2.2 hrow1 (by decide))
    have e1v : ((v + 1 : Nat) : Int) = (v : Int) + 1 := by omega
    rw [e1v] at hW1
    have HGE := Lib.hid hge; have HYE := Lib.hid hy; have HMEM := Lib.hid hmem
    obtain ⟨b0, hb0⟩ : ∃ b0, v + 2 + y.n = b0 := ⟨_, rfl⟩
    rw [hb0] at CM
    have HB0 := Lib.hid hb0
    have hb0b : b0 ≤ 90000000 := by omega
    clear hge hy hmem hoy hoy1 hrow1 hoffA hb0
    go_wp2_with fail
    clear hW1 c0 c1 c2 c3 c4 z0 z1 hf2 w2c w2d
    refine CM.out.mono ?_
    rintro e w2 ⟨rfl, hoff2, hown2⟩
    have hrow2 := own_offV HROW1.out hoff2 (fun q h1 h2 => HAP1.out _ h2 h1)
    have hr2 := Lib.hid hrow2
    have hlen2 := hrow2.1
    obtain ⟨u3, d3⟩ : ∃ u, w2.cell? ⟨g, j * 5 + 3, none⟩ = some u := by
      have h9 := hrow2.cellAt (j * 5 + 3) (by have := HLN.out; omega)
      rw [List.getElem?_eq_getElem (by rw [hlen2]; omega)] at h9
      exact ⟨_, h9⟩
    obtain ⟨u4, d4⟩ : ∃ u, w2.cell? ⟨g, j * 5 + 4, none⟩ = some u := by
      have h9 := hrow2.cellAt (j * 5 + 4) (by have := HLN.out; omega)
      rw [List.getElem?_eq_getElem (by rw [hlen2]; omega)] at h9
      exact ⟨_, h9⟩
    have y3 := hrow2.frozenAt (j * 5 + 3)
    have y4 := hrow2.frozenAt (j * 5 + 4)
    have hrow3 := ((hrow2.stored (j * 5 + 3) (.int .i64 (b0 : Int))).1.stored (j * 5 + 4) (.int .i64 ((b0 : Int) + 1))).1
    have hyM : (ltM v y).p0 = (v : Int) ∧ (ltM v y).p1 = ((v + 1 : Nat) : Int) ∧ (ltM v y).q0 = (b0 : Int) ∧ (ltM v y).q1 = (b0 : Int) + 1 := ⟨rfl, rfl, by rw [← HB0.out]; rfl, by show ((v + 3 + y.n : Nat) : Int) = _; have := HB0.out; omega⟩
    have hst := setsLt (msK k ys j) j hjm (ltM v y) (by rw [HGE.out]; rfl) (by rw [HGE.out]; rfl) (by rw [HGE.out]; rfl)
    rw [hyM.1, hyM.2.1, hyM.2.2.1, hyM.2.2.2] at hst
    rw [hst] at hrow3
    have hoffB : Off (fun b => b = g) w2 ((w2.setCell ⟨g, j * 5 + 3, none⟩ (.int .i64 (b0 : Int))).setCell ⟨g, j * 5 + 4, none⟩ (.int .i64 ((b0 : Int) + 1))) := (off1 _).trans (off1 _)
    have hyo : LtO B ((w2.setCell ⟨g, j * 5 + 3, none⟩ (.int .i64 (b0 : Int))).setCell ⟨g, j * 5 + 4, none⟩ (.int .i64 ((b0 : Int) + 1))) (ltM v y) := by
      refine ⟨by show (marks (v + 2) y.n).length = y.n; exact marks_len _ _, HY1.out.2.1, ?_⟩
      exact own_offV hown2 hoffB (fun q hq e => by subst e; exact HAP1.out _ hq rfl)
    have hoth : ∀ i (hi : i < (msK k ys j).length), i ≠ j → LtO B ((w2.setCell ⟨g, j * 5 + 3, none⟩ (.int .i64 (b0 : Int))).setCell ⟨g, j * 5 + 4, none⟩ (.int .i64 ((b0 : Int) + 1))) (msK k ys j)[i] := fun i hi hij => by
      have h0 := HC.out.own _ (List.getElem_mem hi)
      have hap := own_type_apart h0.2.2 HC.out.row (by decide)
      have hA := h0.offV HOFA.out (fun q hq e => by subst e; exact hap _ hq rfl)
      have hB2 := hA.offV hoff2 (fun q hq e => by
        have hne : Apart (ltv (msK k ys j)[i]) (ltv y) := by
          rw [← HGE.out]
          rcases Nat.lt_or_gt_of_ne hij with h | h
          · exact List.pairwise_iff_getElem.1 HC.out.apart i j hi hjm h
          · exact (List.pairwise_iff_getElem.1 HC.out.apart j i hjm hi h).symm
        exact hne _ hq e)
      exact hB2.offV hoffB (fun q hq e => by subst e; exact hap _ hq rfl)
    have HC3 := Lib.hid (HC.out.setN hjm (y' := ltM v y) (by rw [HGE.out]; rfl) (by rw [HGE.out]; rfl) (by rw [HGE.out]; rfl) hrow3 hyo hoth)
    have HSU : Hid (msK k ys (j + 1) = (msK k ys j).set j (ltM v y)) := Lib.hid (by rw [msK_succ k ys hjl, HYE.out, HV.out])
    have HF3 : Hid (Off (fun b => b = g ∨ ∃ y ∈ ys, (ltv y).ownBlock = some b) w ((w2.setCell ⟨g, j * 5 + 3, none⟩ (.int .i64 (b0 : Int))).setCell ⟨g, j * 5 + 4, none⟩ (.int .i64 ((b0 : Int) + 1)))) := Lib.hid (((HF.out.trans (HOFA.out.wider fun b h => .inl h)).trans (hoff2.wider fun b h => .inr ⟨y, HMEM.out, h⟩)).trans (hoffB.wider fun b h => .inl h))
    clear hoff2 hown2 hrow2 hlen2 hrow3 hyM hst hoffB hyo hoth
    go_wp2
    go_roundw
    case rel => exact ⟨j + 1, v + (4 + y.n), by omega, by go_num, by have := HB0.out; congr 1; omega, hV2, Lib.hid (by rw [HSU.out]; exact HC3.out), HF3⟩
    case measure => simp [intOf]; omega
end Go.Proofs.Ytkpendpjdemknaa
