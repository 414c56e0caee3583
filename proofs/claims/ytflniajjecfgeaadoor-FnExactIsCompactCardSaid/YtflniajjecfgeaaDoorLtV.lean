/- Lights in memory of the call's own: compared, marked with the marks' values, held; whole plans. No condition but those typed. -/
import Derived.Test.YtflniajjecfgeaaDoorLtC
import Derived.Test.YtflniajjecfgeaaDoorNtB
import Derived.Test.YtflniajjecfgeaaDoorRtA
import Derived.Test.YtflniajjecfgeaaDoorGC
namespace Go.Proofs.YtflniajjecfgeaaDoor
open Go.ChangeShapes Go.WideShapes Go.ChangeAt Go.RowKit
theorem Rd.ltA {w : World} {B : Nat} {A : Option Addr} {xs : List Lt} (h : Rd w B A (xs.flatMap Lt.cells)) {k : Nat} (hk : k < xs.length) :
    ∃ ad, A = some ad ∧ ad.block < B ∧ w.cell? (ad.add (k * 5)) = some (.int .i64 xs[k].p0) ∧ w.cell? ⟨(ad.add (k * 5)).block, (ad.add (k * 5)).off + 1, none⟩ = some (.int .i64 xs[k].p1) ∧ w.cell? ⟨(ad.add (k * 5)).block, (ad.add (k * 5)).off + 2, none⟩ = some (.slice xs[k].A xs[k].n xs[k].c) ∧ w.cell? ⟨(ad.add (k * 5)).block, (ad.add (k * 5)).off + 3, none⟩ = some (.int .i64 xs[k].q0) ∧ w.cell? ⟨(ad.add (k * 5)).block, (ad.add (k * 5)).off + 4, none⟩ = some (.int .i64 xs[k].q1) := by
  have g := fun j hj => flat_get Lt.cells 5 xs (fun _ _ => rfl) k j hj
  rw [List.getElem?_eq_getElem hk] at g
  obtain ⟨ad, e, hb, h0⟩ := h (k * 5 + 0) _ (g 0 (by omega))
  obtain ⟨ad1, e1, _, h1⟩ := h (k * 5 + 1) _ (g 1 (by omega))
  obtain ⟨ad2, e2, _, h2⟩ := h (k * 5 + 2) _ (g 2 (by omega))
  obtain ⟨ad3, e3, _, h3⟩ := h (k * 5 + 3) _ (g 3 (by omega))
  obtain ⟨ad4, e4, _, h4⟩ := h (k * 5 + 4) _ (g 4 (by omega))
  subst e
  injection e1 with e1; injection e2 with e2; injection e3 with e3; injection e4 with e4
  subst e1 e2 e3 e4
  rw [add_next] at h1 h2 h3 h4
  exact ⟨_, rfl, hb, h0, h1, h2, h3, h4⟩
set_option maxHeartbeats 2000000 in
theorem eqLtA (p0 p1 q0 q1 : Int) (A A' : Option Addr) (n c c' : Nat) (zs : List Int) (w : World) (hn : zs.length = n) (hs : n ≤ 1048576) (hr : Rd w w.heap.size A (zs.map (Value.int .i64))) (hr' : Rd w w.heap.size A' (zs.map (Value.int .i64))) :
    Calls Tryd.prog 32 #[.agg #[.int .i64 p0, .int .i64 p1, .slice A n c, .int .i64 q0, .int .i64 q1], .agg #[.int .i64 p0, .int .i64 p1, .slice A' n c', .int .i64 q0, .int .i64 q1]] w fun e w' => e = .returned (.bool true) ∧ Below w.heap.size w w' := by
  have hb0 := ((Below.refl w.heap.size w).alloc (Nat.le_refl _) (Obj.cells #[.int .i64 p0, .int .i64 p1, .slice A n c, .int .i64 q0, .int .i64 q1] 67)).alloc (by simp) (Obj.cells #[.int .i64 p0, .int .i64 p1, .slice A' n c', .int .i64 q0, .int .i64 q1] 67)
  have HB := Lib.hid hb0
  have CE := Lib.hid (eqRtA p1 A A' n c c' zs _ hn hs (hr.moved hb0) (hr'.moved hb0))
  have hz0 : ∀ W : World, Below (w.heap.size + 1 + 1) ((w.alloc (Obj.cells #[.int .i64 p0, .int .i64 p1, .slice A n c, .int .i64 q0, .int .i64 q1] 67)).alloc (Obj.cells #[.int .i64 p0, .int .i64 p1, .slice A' n c', .int .i64 q0, .int .i64 q1] 67)) W → True := fun _ _ => trivial
  clear hz0 hn hr hr' hb0
  go_enter Tryd.func32, Tryd.ntmps32
  go_wp2_with fail
  obtain ⟨W0, hW0⟩ : ∃ W0, (w.alloc (Obj.cells #[.int .i64 p0, .int .i64 p1, .slice A n c, .int .i64 q0, .int .i64 q1] 67)).alloc (Obj.cells #[.int .i64 p0, .int .i64 p1, .slice A' n c', .int .i64 q0, .int .i64 q1] 67) = W0 := ⟨_, rfl⟩
  rw [hW0] at CE HB ⊢
  have k0_3 : W0.cell? ⟨w.heap.size, 3, none⟩ = some (.int .i64 q0) := by rw [← hW0]; simp [go_sem]
  have k0_4 : W0.cell? ⟨w.heap.size, 4, none⟩ = some (.int .i64 q1) := by rw [← hW0]; simp [go_sem]
  have k1_3 : W0.cell? ⟨w.heap.size + 1, 3, none⟩ = some (.int .i64 q0) := by rw [← hW0]; simp [go_sem]
  have k1_4 : W0.cell? ⟨w.heap.size + 1, 4, none⟩ = some (.int .i64 q1) := by rw [← hW0]; simp [go_sem]
  have hz : w.heap.size + 1 < W0.heap.size := by rw [← hW0]; simp
  clear hW0
  refine CE.out.mono ?_
  rintro e w1 ⟨rfl, hb1⟩
  have HB1 := Lib.hid (HB.out.trans (hb1.mono HB.out.size))
  have l0_3 := (hb1.cell (p := ⟨w.heap.size, 3, none⟩) (by show w.heap.size < _; omega)).trans k0_3
  have l0_4 := (hb1.cell (p := ⟨w.heap.size, 4, none⟩) (by show w.heap.size < _; omega)).trans k0_4
  have l1_3 := (hb1.cell (p := ⟨w.heap.size + 1, 3, none⟩) (by show w.heap.size + 1 < _; omega)).trans k1_3
  have l1_4 := (hb1.cell (p := ⟨w.heap.size + 1, 4, none⟩) (by show w.heap.size + 1 < _; omega)).trans k1_4
  clear hb1
  go_wp2_with fail
  refine (eqBlk q0 q1 _).mono ?_
  rintro e w2 ⟨rfl, hb2⟩
  have HB2 := Lib.hid (HB1.out.trans (hb2.mono HB1.out.size)); clear HB1 hb2; have HB1 := HB2; clear HB2
  go_wp2
  go_ret
  exact ⟨rfl, HB1.out⟩
theorem eqLt_nil9 (A A' : Option Addr) (c c' : Nat) (w : World) :
    Calls Tryd.prog 17 #[.slice A 0 c, .slice A' 0 c'] w fun e w' => e = .returned (.bool true) ∧ Below w.heap.size w w' := by
  go_enter Tryd.func17, Tryd.ntmps17
  go_wp2
  go_loop [5] (fun i => i = .int .i64 0) (fun _ => 0)
  case atStart => exact rfl
  case round =>
    obtain rfl := hrel
    go_wp2
    go_ret
    exact ⟨rfl, Below.refl _ _⟩
/-- lights that are read: the row and the row of each. -/
structure LtR (A : Option Addr) (n : Nat) (ys : List Lt) (w : World) : Prop where
  len : ys.length = n
  rd : Rd w w.heap.size A (ys.flatMap Lt.cells)
  at_ : ∀ y ∈ ys, LtAt w y
theorem LtR.moved {A : Option Addr} {n : Nat} {ys : List Lt} {w w' : World} (h : LtR A n ys w) (hb : Below w.heap.size w w') : LtR A n ys w' := ⟨h.len, h.rd.moved hb, fun y hy => (h.at_ y hy).moved hb⟩
theorem LtC.toR {B : Nat} {A : Option Addr} {n c : Nat} {ys : List Lt} {w : World} (h : LtC B A n c ys w) : LtR A n ys w := ⟨h.len, rdOwnA h.row, fun y hy => (h.own y hy).at_⟩
set_option maxRecDepth 100000 in
set_option maxHeartbeats 4000000 in
theorem eqLtsR (A A' : Option Addr) (n c c' : Nat) (xs ys : List Lt) (w : World) (hx : LtR A n xs w) (hy : LtR A' n ys w) (hd : xs.map Lt.d = ys.map Lt.d) (hs : n ≤ 1048576) :
    Calls Tryd.prog 17 #[.slice A n c, .slice A' n c'] w fun e w' => e = .returned (.bool true) ∧ Below w.heap.size w w' := by
  by_cases h0 : n = 0
  · subst h0; exact eqLt_nil9 A A' c c' w
  obtain ⟨ad, rfl, hlt1, -⟩ := hx.rd.ltA (show 0 < xs.length by have := hx.len; omega)
  obtain ⟨ad', rfl, hlt2, -⟩ := hy.rd.ltA (show 0 < ys.length by have := hy.len; omega)
  have HX := Lib.hid hx; have HYY := Lib.hid hy; have HD := Lib.hid hd
  clear hx hy hd h0
  go_enter Tryd.func17, Tryd.ntmps17
  go_wp2
  go_loopw [5] (fun i wr => ∃ k : Nat, k ≤ n ∧ i = .int .i64 k ∧ Below w.heap.size w wr) (fun i _ => n - (intOf i).toNat)
  case atStart => exact ⟨0, Nat.zero_le _, rfl, Below.refl _ _⟩
  case round =>
    obtain ⟨k, hk, rfl, hb⟩ := hrel
    by_cases hlt : k < n
    case neg =>
      go_wp2
      go_ret
      exact ⟨rfl, hb⟩
    case pos =>
    have hkx : k < xs.length := by have := HX.out.len; omega
    have hky : k < ys.length := by have := HYY.out.len; omega
    have hbs := hb.size
    obtain ⟨ad1, e1, hg, c0, c1, c2, c3, c4⟩ := (HX.out.moved hb).rd.ltA hkx
    obtain ⟨ad2, e2, hg', d0, d1, d2, d3, d4⟩ := (HYY.out.moved hb).rd.ltA hky
    injection e1 with e1; injection e2 with e2
    subst e1 e2
    have hox := (HX.out.moved hb).at_ xs[k] (List.getElem_mem hkx)
    have hoy := (HYY.out.moved hb).at_ ys[k] (List.getElem_mem hky)
    have hde : xs[k].d = ys[k].d := by
      have h9 := congrArg (fun l => l[k]?) HD.out
      simpa [hkx, hky] using h9
    have hsm := Lt_same hde
    generalize xs[k]'hkx = x at c0 c1 c2 c3 c4 hox hsm
    generalize ys[k]'hky = y at d0 d1 d2 d3 d4 hoy hsm
    obtain ⟨p0, p1, A1, m, cc1, zs, q0, q1⟩ := x
    obtain ⟨p0', p1', A2, n1', cc2, zs', q0', q1'⟩ := y
    obtain ⟨e3, e4, ho1⟩ := hox
    obtain ⟨e7, e8, ho2⟩ := hoy
    simp only at e3 e4 ho1 e7 e8 ho2 hsm c0 c1 c2 c3 c4 d0 d1 d2 d3 d4
    obtain ⟨rfl, rfl, rfl, rfl, rfl⟩ := hsm
    have em : m = n1' := by rw [← e3, ← e7]
    subst em
    have HZN := Lib.hid e3; have HZS := Lib.hid e4
    have HZ1 := Lib.hid ho1
    have HZ2 := Lib.hid ho2
    have hga : (ad.add (k * 5)).block < wr.heap.size := by rw [addBlock]; exact hg
    have hgb : (ad'.add (k * 5)).block < wr.heap.size := by rw [addBlock]; exact hg'
    have HBR := Lib.hid hb
    clear e3 e4 e7 e8 ho1 ho2 hde hkx hky hbs
    go_wp2
    have hbd : Bel wr wr.drew := Bel.of (Below.refl _ _).drew
    go_region_held3 (fun U => U.cell? (ad.add (k * 5)) = some (.int .i64 p0) ∧ U.cell? ⟨(ad.add (k * 5)).block, (ad.add (k * 5)).off + 1, none⟩ = some (.int .i64 p1) ∧ U.cell? ⟨(ad.add (k * 5)).block, (ad.add (k * 5)).off + 2, none⟩ = some (.slice A1 m cc1) ∧ U.cell? ⟨(ad.add (k * 5)).block, (ad.add (k * 5)).off + 3, none⟩ = some (.int .i64 q0) ∧ U.cell? ⟨(ad.add (k * 5)).block, (ad.add (k * 5)).off + 4, none⟩ = some (.int .i64 q1) ∧ U.cell? (ad'.add (k * 5)) = some (.int .i64 p0) ∧ U.cell? ⟨(ad'.add (k * 5)).block, (ad'.add (k * 5)).off + 1, none⟩ = some (.int .i64 p1) ∧ U.cell? ⟨(ad'.add (k * 5)).block, (ad'.add (k * 5)).off + 2, none⟩ = some (.slice A2 m cc2) ∧ U.cell? ⟨(ad'.add (k * 5)).block, (ad'.add (k * 5)).off + 3, none⟩ = some (.int .i64 q0) ∧ U.cell? ⟨(ad'.add (k * 5)).block, (ad'.add (k * 5)).off + 4, none⟩ = some (.int .i64 q1) ∧ Bel wr U)
      (first | (go_keep; done) | (go_split_ands; (refine ⟨?_, ?_, ?_, ?_, ?_, ?_, ?_, ?_, ?_, ?_, ?_⟩ <;> first | assumption | exact Bel.step (by assumption) hb2 | exact (belAtA (by assumption) hb2 hga).trans (by assumption) | exact (belAtA (by assumption) hb2 hgb).trans (by assumption) | exact (Bel.at_ (by assumption) hb2 hga).trans (by assumption) | exact (Bel.at_ (by assumption) hb2 hgb).trans (by assumption))))
      (first | (go_at_call 32; go_split_ands; refine (eqLtA p0 p1 q0 q1 A1 A2 m cc1 cc2 zs _ HZN.out HZS.out (HZ1.out.moved (Bel.out (by assumption))) (HZ2.out.moved (Bel.out (by assumption)))).mono ?_; rintro e w2 ⟨rfl, hb2⟩))
    all_goals
      go_split_ands
      have HB3 := Lib.hid (HBR.out.trans ((Bel.out (by assumption)).mono HBR.out.size))
      go_wp2
      go_roundw
      case rel => exact ⟨k + 1, by omega, by go_num, HB3.out⟩
      case measure => simp [intOf]; omega
/-- a light with marks from v on. -/
def ltM (v : Nat) (y : Lt) : Lt := ⟨(v : Int), ((v + 1 : Nat) : Int), y.A, y.n, y.c, marks (v + 2) y.n, ((v + 2 + y.n : Nat) : Int), ((v + 3 + y.n : Nat) : Int)⟩
def mAt (k : Nat) (ys : List Lt) (j : Nat) : Nat := k + ((ys.take j).map fun y => 4 + y.n).sum
theorem mAt_zero (k : Nat) (ys : List Lt) : mAt k ys 0 = k := by unfold mAt; simp
theorem mAt_succ (k : Nat) (ys : List Lt) {j : Nat} (hj : j < ys.length) : mAt k ys (j + 1) = mAt k ys j + (4 + (ys[j]).n) := by
  unfold mAt; rw [List.take_succ_eq_append_getElem hj, List.map_append, List.sum_append]; simp; omega
def msK (k : Nat) (ys : List Lt) (j : Nat) : List Lt := ys.mapIdx fun i y => if i < j then ltM (mAt k ys i) y else y
theorem msK_len (k : Nat) (ys : List Lt) (j : Nat) : (msK k ys j).length = ys.length := by unfold msK; simp
theorem msK_zero (k : Nat) (ys : List Lt) : msK k ys 0 = ys := by
  unfold msK
  refine List.ext_getElem (by simp) fun i h1 h2 => ?_
  simp
theorem msK_get (k : Nat) (ys : List Lt) (j : Nat) {i : Nat} (h : i < ys.length) : (msK k ys j)[i]'(by rw [msK_len]; exact h) = if i < j then ltM (mAt k ys i) ys[i] else ys[i] := by
  unfold msK; simp
theorem msK_succ (k : Nat) (ys : List Lt) {j : Nat} (hj : j < ys.length) : msK k ys (j + 1) = (msK k ys j).set j (ltM (mAt k ys j) ys[j]) := by
  refine List.ext_getElem (by rw [List.length_set, msK_len, msK_len]) fun i h1 h2 => ?_
  have hi : i < ys.length := by rw [msK_len] at h1; exact h1
  rw [msK_get k ys (j + 1) hi, List.getElem_set]
  by_cases hij : j = i
  · subst hij; rw [if_pos (by omega), if_pos rfl]
  · rw [if_neg hij, msK_get k ys j hi]
    by_cases hlt : i < j
    · rw [if_pos (by omega), if_pos hlt]
    · rw [if_neg (by omega), if_neg hlt]
theorem lt_skip (q : Lt) (l : List Value) (k j : Nat) (v : Value) : (q.cells ++ l).set ((k + 1) * 5 + j) v = q.cells ++ l.set (k * 5 + j) v := by
  have e : q.cells.length = 5 := rfl
  rw [List.set_append_right _ _ (by omega), e]
  congr 2
  omega
theorem lt_skip0 (q : Lt) (l : List Value) (k : Nat) (v : Value) : (q.cells ++ l).set ((k + 1) * 5) v = q.cells ++ l.set (k * 5) v := lt_skip q l k 0 v
theorem setsLt : ∀ (ys : List Lt) (k : Nat) (hk : k < ys.length) (y' : Lt), y'.A = ys[k].A → y'.n = ys[k].n → y'.c = ys[k].c → (((((ys.flatMap Lt.cells).set (k * 5) (.int .i64 y'.p0)).set (k * 5 + 1) (.int .i64 y'.p1)).set (k * 5 + 3) (.int .i64 y'.q0)).set (k * 5 + 4) (.int .i64 y'.q1)) = (ys.set k y').flatMap Lt.cells
  | q :: r, 0, _, y', h1, h2, h3 => by
    simp only [List.getElem_cons_zero] at h1 h2 h3
    simp [Lt.cells, h1, h2, h3]
  | q :: r, k + 1, h, y', h1, h2, h3 => by
    have ih := setsLt r k (by simpa using h) y' (by simpa using h1) (by simpa using h2) (by simpa using h3)
    rw [List.flatMap_cons, lt_skip0, lt_skip, lt_skip, lt_skip, ih]
    simp
theorem LtC.setN {B : Nat} {A : Option Addr} {n c : Nat} {zs : List Lt} {w w' : World} (h : LtC B A n c zs w) {j : Nat} (hj : j < zs.length) {y' : Lt} (h1 : y'.A = zs[j].A) (h2 : y'.n = zs[j].n) (h3 : y'.c = zs[j].c)
    (hrow : w'.ownsRow B 67 5 (.slice A n c) n ((zs.set j y').flatMap Lt.cells)) (hy : LtO B w' y') (hoth : ∀ i (hi : i < zs.length), i ≠ j → LtO B w' zs[i]) : LtC B A n c (zs.set j y') w' := by
  have hv : ltv y' = ltv zs[j] := by unfold ltv; rw [h1, h2, h3]
  refine ⟨by rw [List.length_set]; exact h.len, hrow, fun y hym => ?_, ?_⟩
  · obtain ⟨i, hi, e⟩ := List.getElem_of_mem hym
    rw [List.getElem_set] at e
    by_cases hij : j = i
    · rw [if_pos hij] at e; rw [← e]; exact hy
    · rw [if_neg hij] at e; rw [← e]; exact hoth i (by simpa using hi) (fun e => hij e.symm)
  · rw [List.pairwise_iff_getElem]
    intro a b ha hb hab
    have ha' : a < zs.length := by simpa using ha
    have hb' : b < zs.length := by simpa using hb
    have hp := List.pairwise_iff_getElem.1 h.apart a b ha' hb' hab
    rw [List.getElem_set, List.getElem_set]
    by_cases e1 : j = a
    · subst e1; rw [if_pos rfl, if_neg (by omega), hv]; exact hp
    · by_cases e2 : j = b
      · subst e2; rw [if_neg e1, if_pos rfl, hv]; exact hp
      · rw [if_neg e1, if_neg e2]; exact hp
theorem LtO.offV {S : Nat → Prop} {B : Nat} {w w' : World} {y : Lt} (h : LtO B w y) (hoff : Off S w w') (hs : ∀ g, (ltv y).ownBlock = some g → ¬ S g) : LtO B w' y := ⟨h.1, h.2.1, own_offV h.2.2 hoff hs⟩
theorem off1 {w : World} {g o : Nat} (v : Value) : Off (fun b => b = g) w (w.setCell ⟨g, o, none⟩ v) := Off.set_ (Off.refl (fun b => b = g) w) (p := ⟨g, o, none⟩) rfl v
end Go.Proofs.YtflniajjecfgeaaDoor
