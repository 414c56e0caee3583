/- Assignments: contracts of spec.l12Taken, spec.l12Is and of CheckAssignment, both sides. No condition but those typed. -/
import Derived.Test.YtbnfogedmjjiaaaDoorCaH
import Derived.Test.YtbnfogedmjjiaaaDoorGA
import Derived.Test.YtbnfogedmjjiaaaDoorSw
namespace Go.Proofs.YtbnfogedmjjiaaaDoor
open Go.ChangeShapes Go.WideShapes Go.ChangeAt Go.RowKit Go.Maps

theorem bkn_at {bs : List Q2} {k : Nat} (hk : k < bs.length) {p : Q2} (hp : bs[k] = p) : bkn bs k = p := by
  unfold bkn; rw [List.getD_eq_getElem?_getD, List.getElem?_eq_getElem hk, hp]; rfl
def okB (ds : List RqD) (bs : List Q2) (i : Nat) : Prop := blkP (bkn bs i).a (bkn bs i).b ∧ (bkn bs i).b = (rqn ds i).q0
def clP (ds : List RqD) (bs : List Q2) (i k : Nat) : Prop := cfB (rqn ds i) (rqn ds k) = true ∧ ovP (bkn bs i) (bkn bs k)
def isP (ds : List RqD) (bs : List Q2) : Prop := bs.length = ds.length ∧ (∀ i, i < ds.length → okB ds bs i) ∧ ∀ i k, k < i → i < ds.length → ¬ clP ds bs i k
def caP (ss : List ByteArray) (fs : List Q4) (ds : List RqD) (bs : List Q2) : Prop := reqsB ss fs ds = true ∧ isP ds bs
noncomputable def caB (ss : List ByteArray) (fs : List Q4) (ds : List RqD) (bs : List Q2) : Bool := pb (caP ss fs ds bs)
noncomputable def caV (ss : List ByteArray) (fs : List Q4) (ds : List RqD) (bs : List Q2) : Int := if caB ss fs ds bs then hgtQ bs bs.length else 0
noncomputable def caR (ss : List ByteArray) (fs : List Q4) (ds : List RqD) (bs : List Q2) : Value := .tuple #[.int .i64 (caV ss fs ds bs), .bool (caB ss fs ds bs)]
theorem ca_no {ss : List ByteArray} {fs : List Q4} {ds : List RqD} {bs : List Q2} (h : ¬ caP ss fs ds bs) : (.tuple #[.int .i64 0, .bool false] : Value) = caR ss fs ds bs := by
  unfold caR caV; rw [show caB ss fs ds bs = false from pb_false h]; rfl
theorem ca_yes {ss : List ByteArray} {fs : List Q4} {ds : List RqD} {bs : List Q2} (h : caP ss fs ds bs) : (.tuple #[.int .i64 (hgtQ bs bs.length), .bool true] : Value) = caR ss fs ds bs := by
  unfold caR caV; rw [show caB ss fs ds bs = true from pb_true h]; rfl
theorem ovP.symm {p q : Q2} (h : ovP p q) : ovP q p := ⟨h.2, h.1⟩
theorem clP.symm {ds : List RqD} {bs : List Q2} {i k : Nat} (h : clP ds bs i k) : clP ds bs k i := ⟨by rw [cf_sym]; exact h.1, h.2.symm⟩
/-- the slots that the first k requests take from request i. -/
def tkN (ds : List RqD) (bs : List Q2) (i : Nat) : Nat → Nat
  | 0 => 0
  | k + 1 => if k ≠ i ∧ cfB (rqn ds k) (rqn ds i) = true then tkN ds bs i k ||| bN (bkn bs k) else tkN ds bs i k
theorem tk_yes {ds : List RqD} {bs : List Q2} {i k : Nat} (h : k ≠ i ∧ cfB (rqn ds k) (rqn ds i) = true) : tkN ds bs i (k + 1) = tkN ds bs i k ||| bN (bkn bs k) := by rw [tkN, if_pos h]
theorem tk_no {ds : List RqD} {bs : List Q2} {i k : Nat} (h : ¬ (k ≠ i ∧ cfB (rqn ds k) (rqn ds i) = true)) : tkN ds bs i (k + 1) = tkN ds bs i k := by rw [tkN, if_neg h]
theorem tk_lt {ds : List RqD} {bs : List Q2} {i : Nat} : ∀ {k : Nat}, (∀ j, j < k → blkP (bkn bs j).a (bkn bs j).b) → tkN ds bs i k < 2 ^ 24
  | 0, _ => by show (0 : Nat) < 2 ^ 24; decide
  | k + 1, h => by
    have ih := tk_lt (ds := ds) (i := i) (k := k) (fun j hj => h j (by omega))
    by_cases hc : k ≠ i ∧ cfB (rqn ds k) (rqn ds i) = true
    · rw [tk_yes hc]; exact Nat.or_lt_two_pow ih (bN_lt (h k (by omega)))
    · rw [tk_no hc]; exact ih
theorem tk_meet {ds : List RqD} {bs : List Q2} {i y : Nat} : ∀ {k : Nat}, tkN ds bs i k &&& y ≠ 0 ↔ ∃ j, j < k ∧ j ≠ i ∧ cfB (rqn ds j) (rqn ds i) = true ∧ bN (bkn bs j) &&& y ≠ 0
  | 0 => by
    constructor
    · intro h; exact absurd (by show (0 : Nat) &&& y = 0; exact Nat.zero_and y) h
    · rintro ⟨j, hj, _⟩; omega
  | k + 1 => by
    have ih := tk_meet (ds := ds) (bs := bs) (i := i) (y := y) (k := k)
    by_cases hc : k ≠ i ∧ cfB (rqn ds k) (rqn ds i) = true
    · rw [tk_yes hc, Nat.and_or_distrib_right]
      constructor
      · intro h
        by_cases h1 : tkN ds bs i k &&& y = 0
        · rw [h1, Nat.zero_or] at h
          exact ⟨k, by omega, hc.1, hc.2, h⟩
        · obtain ⟨j, a1, a2⟩ := ih.1 h1
          exact ⟨j, by omega, a2⟩
      · rintro ⟨j, hj, h1, h2, h3⟩ e
        have e2 := Nat.or_eq_zero_iff.1 e
        by_cases hjk : j = k
        · subst hjk; exact h3 e2.2
        · exact ih.2 ⟨j, by omega, h1, h2, h3⟩ e2.1
    · rw [tk_no hc, ih]
      constructor
      · rintro ⟨j, hj, a⟩; exact ⟨j, by omega, a⟩
      · rintro ⟨j, hj, h1, h2, h3⟩
        by_cases hjk : j = k
        · subst hjk; exact absurd ⟨h1, h2⟩ hc
        · exact ⟨j, by omega, h1, h2, h3⟩
/-- two requests that clash are seen from the one and from the other. -/
theorem tk_is {ds : List RqD} {bs : List Q2} (hl : bs.length = ds.length) (hok : ∀ i, i < ds.length → okB ds bs i) (h : ∀ i, i < ds.length → tkN ds bs i ds.length &&& bN (bkn bs i) = 0) : isP ds bs := by
  refine ⟨hl, hok, fun i k hk hi hc => ?_⟩
  exact tk_meet.2 ⟨k, by omega, by omega, by rw [cf_sym]; exact hc.1, (meet_iff (hok k (by omega)).1 (hok i hi).1).2 hc.2.symm⟩ (h i hi)
theorem tk_isnt {ds : List RqD} {bs : List Q2} {i : Nat} (hi : i < ds.length) (h : tkN ds bs i ds.length &&& bN (bkn bs i) ≠ 0) : ¬ isP ds bs := by
  intro hp
  obtain ⟨j, hj, h1, h2, h3⟩ := tk_meet.1 h
  have hov := (meet_iff (hp.2.1 j hj).1 (hp.2.1 i hi).1).1 h3
  have hc : clP ds bs j i := ⟨h2, hov⟩
  rcases Nat.lt_or_gt_of_ne h1 with h4 | h4
  · exact hp.2.2 i j h4 hi hc.symm
  · exact hp.2.2 j i h4 hj hc

set_option maxRecDepth 100000 in
set_option maxHeartbeats 8000000 in
theorem taken_ {B g n : Nat} {ys : List Rq} {ds : List RqD} {w : World} (hT : Rqs B g n ys w) (hd : ys.map Rq.d = ds) (hn7 : n ≤ 7) {gb : Nat} {bs : List Q2} (hm : bs.length = n) (hb : Rd w w.heap.size (some ⟨gb, 0, none⟩) (bs.flatMap Q2.cells)) (hok : ∀ k, k < n → blkP (bkn bs k).a (bkn bs k).b) (i : Nat) (hi : i < n) :
    Calls Tryd.prog 151 #[.slice (some ⟨g, 0, none⟩) n n, .slice (some ⟨gb, 0, none⟩) n n, .int .i64 (i : Int)] w (RetP (.int .i64 (tkN ds bs i n : Nat)) w) := by
  have HT := Lib.hid hT; have HD := Lib.hid hd; have HM := Lib.hid hm; have HRB := Lib.hid hb; have HOK := Lib.hid hok
  have HLT : Hid (∀ k, k ≤ n → tkN ds bs i k < 2 ^ 24) := Lib.hid (fun k hk => tk_lt (fun j hj => hok j (by omega)))
  clear hT hd hm hb hok
  go_enter Tryd.func151, Tryd.ntmps151
  go_wp2
  go_loopw [7, 8] (fun v l wr => ∃ (k m : Nat), k ≤ n ∧ l = .int .i64 k ∧ v = .int .i64 m ∧ Hid (tkN ds bs i k = m) ∧ Below w.heap.size w wr) (fun _ l _ => n - (intOf l).toNat)
  case atStart => exact ⟨0, 0, Nat.zero_le _, rfl, rfl, Lib.hid rfl, Below.refl _ _⟩
  case round =>
    obtain ⟨k, m, hk, rfl, rfl, HTK, hb⟩ := hrel
    have HBR := Lib.hid hb
    clear hb
    by_cases hlt : k < n
    case neg =>
      obtain rfl : k = n := by omega
      obtain rfl : tkN ds bs i k = m := HTK.out
      clear hlt
      go_wp2
      go_ret
      exact ⟨rfl, HBR.out⟩
    case pos =>
    have hm24 : m < 2 ^ 24 := by have := HLT.out k hk; rw [HTK.out] at this; exact this
    obtain ⟨T, f, x0, hx0, hTT, HST⟩ := above wr
    haveI : Nonempty T := ⟨x0⟩
    have HXX := Lib.hid hx0
    have HBX : Hid (∀ x, Below w.heap.size w (f x)) := Lib.hid (fun x => HBR.out.trans ((hTT x).mono HBR.out.size))
    have HTX : Hid (∀ x, Below wr.heap.size wr (f x)) := Lib.hid hTT
    clear hTT hx0
    by_cases hki : k = i
    case pos =>
      have HTK2 : Hid (tkN ds bs i (k + 1) = m) := Lib.hid (by rw [tk_no (fun h => h.1 hki)]; exact HTK.out)
      subst hki
      go_wp2_with fail
      refine wp_region_class f (by kernel_rfl) (by kernel_rfl) x0 HXX.out ?_
      repeat (go_big_quiet_step (fail))
      refine wpQuiet_nil ?_
      rintro _ ⟨t, rfl⟩
      have HB3 := Lib.hid (HBX.out t)
      go_wp2
      go_roundw
      case rel => exact ⟨k + 1, m, by omega, by go_num, rfl, HTK2, HB3.out⟩
      case measure => simp [intOf]; omega
    case neg =>
    have hkb : ((k : Int) != (i : Int)) = true := bne_iff_ne.2 (by omega)
    have hkb2 : (k != i) = true := bne_iff_ne.2 hki
    have hyl : k < ys.length := by have := HT.out.len; omega
    obtain ⟨y, hye⟩ : ∃ y, ys[k]'hyl = y := ⟨_, rfl⟩
    have HKy := Lib.hid (rqn_at HD.out hyl hye)
    obtain ⟨hyn, hys, hyr⟩ := HT.out.at_ ys[k] (List.getElem_mem hyl)
    rw [hye] at hyn hys hyr
    have hry : ∀ x, (f x).cell? ⟨g, k * 3, none⟩ = some (.int .i64 y.p0) ∧ (f x).cell? ⟨g, k * 3 + 1, none⟩ = some (.slice y.A y.n y.c) ∧ (f x).cell? ⟨g, k * 3 + 2, none⟩ = some (.int .i64 y.q0) := fun x => by
      obtain ⟨_, f0, f1, f2⟩ := (HT.out.moved (HBX.out x)).rd.rqc hyl
      rw [Nat.zero_add, hye] at f0 f1 f2
      exact ⟨f0, f1, f2⟩
    obtain ⟨p0, A, mm, cc, zs, q0⟩ := y
    simp only at hry hyn hys hyr
    have ry0 := fun x => (hry x).1
    have ry1 := fun x => (hry x).2.1
    have ry2 := fun x => (hry x).2.2
    clear hry hye
    have hzl : i < ys.length := by have := HT.out.len; omega
    obtain ⟨z, hze⟩ : ∃ y, ys[i]'hzl = y := ⟨_, rfl⟩
    have HKz := Lib.hid (rqn_at HD.out hzl hze)
    obtain ⟨hzn, hzs, hzr⟩ := HT.out.at_ ys[i] (List.getElem_mem hzl)
    rw [hze] at hzn hzs hzr
    have hrz : ∀ x, (f x).cell? ⟨g, i * 3, none⟩ = some (.int .i64 z.p0) ∧ (f x).cell? ⟨g, i * 3 + 1, none⟩ = some (.slice z.A z.n z.c) ∧ (f x).cell? ⟨g, i * 3 + 2, none⟩ = some (.int .i64 z.q0) := fun x => by
      obtain ⟨_, f0, f1, f2⟩ := (HT.out.moved (HBX.out x)).rd.rqc hzl
      rw [Nat.zero_add, hze] at f0 f1 f2
      exact ⟨f0, f1, f2⟩
    obtain ⟨p1, A2, m2, c2, ks, q1⟩ := z
    simp only at hrz hzn hzs hzr
    have rz0 := fun x => (hrz x).1
    have rz1 := fun x => (hrz x).2.1
    have rz2 := fun x => (hrz x).2.2
    clear hrz hze
    have hpl : k < bs.length := by have := HM.out; omega
    obtain ⟨p, hpe⟩ : ∃ p, bs[k]'hpl = p := ⟨_, rfl⟩
    have HKp := Lib.hid (bkn_at hpl hpe)
    have hbp : ∀ x, (f x).cell? ⟨gb, k * 2, none⟩ = some (.int .i64 p.a) ∧ (f x).cell? ⟨gb, k * 2 + 1, none⟩ = some (.int .i64 p.b) := fun x => by
      obtain ⟨_, f0, f1⟩ := (HRB.out.moved (HBX.out x)).q2c hpl
      rw [Nat.zero_add, hpe] at f0 f1
      exact ⟨f0, f1⟩
    have rp0 := fun x => (hbp x).1
    have rp1 := fun x => (hbp x).2
    clear hbp hpe
    have hblk := HOK.out k hlt
    rw [HKp.out] at hblk
    have HBLK := Lib.hid hblk
    obtain ⟨hp0, hp1, hp2⟩ := hblk
    have hdb : decide (0 < p.b) = true := decide_eq_true (by omega)
    have CF : Hid (∀ x, Calls Tryd.prog 188 #[.agg #[.int .i64 p0, .slice A mm cc, .int .i64 q0], .agg #[.int .i64 p1, .slice A2 m2 c2, .int .i64 q1]] (f x) (RetP (.bool (zs.any fun f => decide (f ∈ ks))) (f x))) := Lib.hid fun x =>
      cf12_ p0 q0 p1 q1 hyn hys (hyr.moved (HBX.out x)) hzn hzs (hzr.moved (HBX.out x))
    obtain ⟨b, hbe⟩ : ∃ b, (zs.any fun f => decide (f ∈ ks)) = b := ⟨_, rfl⟩
    rw [hbe] at CF
    have HCB : Hid (cfB (rqn ds k) (rqn ds i) = b) := Lib.hid (by rw [HKy.out, HKz.out]; exact hbe)
    clear hyn hys hyr hzn hzs hzr hbe
    cases b
    case false =>
      have HTK2 : Hid (tkN ds bs i (k + 1) = m) := Lib.hid (by rw [tk_no (fun h => by have h2 := h.2; rw [HCB.out] at h2; cases h2)]; exact HTK.out)
      go_wp2_with fail
      refine wp_region_class f (by kernel_rfl) (by kernel_rfl) x0 HXX.out ?_
      repeat (go_big_quiet_step (first | (go_at_call 188; exact Calls.inClass HST (CF.out _))))
      refine wpQuiet_nil ?_
      rintro _ ⟨t, rfl⟩
      have HB3 := Lib.hid (HBX.out t)
      clear ry0 ry1 ry2 rz0 rz1 rz2 rp0 rp1
      go_wp2
      go_roundw
      case rel => exact ⟨k + 1, m, by omega, by go_num, rfl, HTK2, HB3.out⟩
      case measure => simp [intOf]; omega
    case true =>
      obtain ⟨u, hu⟩ : ∃ u, bN p = u := ⟨_, rfl⟩
      have hu24 : u < 2 ^ 24 := by rw [← hu]; exact bN_lt HBLK.out
      have HTK2 : Hid (tkN ds bs i (k + 1) = m ||| u) := Lib.hid (by rw [tk_yes ⟨hki, HCB.out⟩, HTK.out, HKp.out, hu])
      have hor := or_i64_ m u (by omega) (by omega)
      have CB : Hid (∀ W, Calls Tryd.prog 152 #[.agg #[.int .i64 p.a, .int .i64 p.b]] W (RetP (.int .i64 (u : Int)) W)) := Lib.hid fun W => by
        have h9 := specBits p.a p.b W HBLK.out
        rw [bits_eq HBLK.out] at h9
        rw [← hu]; exact h9
      obtain ⟨v, hv⟩ : ∃ v, m ||| u = v := ⟨_, rfl⟩
      rw [hv] at hor HTK2
      clear hu hv
      go_wp2_with fail
      refine wp_region_class f (by kernel_rfl) (by kernel_rfl) x0 HXX.out ?_
      repeat (go_big_quiet_step (first | (go_at_call 188; exact Calls.inClass HST (CF.out _))))
      refine wpQuiet_nil ?_
      rintro _ ⟨t, rfl⟩
      have HB3 := Lib.hid (HBX.out t)
      have g0 := rp0 t
      have g1 := rp1 t
      clear ry0 ry1 ry2 rz0 rz1 rz2 rp0 rp1
      go_wp2_with fail
      refine (CB.out _).mono ?_
      rintro e w4 ⟨rfl, hb4⟩
      have HB4 := Lib.hid (HB3.out.trans (hb4.mono HB3.out.size))
      clear hb4 g0 g1
      go_wp2
      go_roundw
      case rel => exact ⟨k + 1, v, by omega, by go_num, by go_num, HTK2, HB4.out⟩
      case measure => simp [intOf]; omega
set_option maxRecDepth 100000 in
set_option maxHeartbeats 8000000 in
theorem l12Is_ {B g n : Nat} {ys : List Rq} {ds : List RqD} {w : World} (hT : Rqs B g n ys w) (hd : ys.map Rq.d = ds) (hn7 : n ≤ 7) {gb : Nat} {bs : List Q2} {m : Nat} (hm : bs.length = m) (hb : Rd w w.heap.size (some ⟨gb, 0, none⟩) (bs.flatMap Q2.cells)) (hm20 : m ≤ 1048576) (hq : ∀ k, k < ds.length → 1 ≤ (rqn ds k).q0 ∧ (rqn ds k).q0 ≤ 24) :
    Calls Tryd.prog 89 #[.slice (some ⟨g, 0, none⟩) n n, .slice (some ⟨gb, 0, none⟩) m m] w (RetP (.bool (pb (isP ds bs))) w) := by
  have HT := Lib.hid hT; have HD := Lib.hid hd; have HM := Lib.hid hm; have HRB := Lib.hid hb
  have HLD : Hid (ds.length = n) := Lib.hid (by rw [← hd, List.length_map]; exact hT.len)
  obtain ⟨R, hR⟩ : ∃ r, pb (isP ds bs) = r := ⟨_, rfl⟩
  have HNO : Hid (¬ isP ds bs → R = false) := Lib.hid (fun e => by rw [← hR]; exact pb_false e)
  have HYES : Hid (isP ds bs → R = true) := Lib.hid (fun e => by rw [← hR]; exact pb_true e)
  rw [hR]
  clear hT hd hm hb hR hq
  by_cases hmn : m = n
  case neg =>
    have HE := Lib.hid (HNO.out (fun h => hmn (by have := h.1; have := HM.out; have := HLD.out; omega)))
    have p1 : ((m : Int) != (n : Int)) = true := by simp; omega
    clear hmn
    go_enter Tryd.func89, Tryd.ntmps89
    go_wp2
    go_ret
    exact ⟨retb HE.out.symm, Below.refl _ _⟩
  case pos =>
  subst hmn
  have HB0 := Lib.hid (Below.refl w.heap.size w)
  go_enter Tryd.func89, Tryd.ntmps89
  go_wp2
  go_loopw [5] (fun l wr => ∃ k : Nat, k ≤ m ∧ l = .int .i64 k ∧ Hid (∀ j, j < k → okB ds bs j) ∧ Below w.heap.size w wr) (fun l _ => m - (intOf l).toNat)
  case atStart => exact ⟨0, Nat.zero_le _, rfl, Lib.hid (fun j hj => by omega), Below.refl _ _⟩
  case round =>
    obtain ⟨k, hk, rfl, HOK, hb⟩ := hrel
    have HBR := Lib.hid hb
    clear hb
    by_cases hlt : k < m
    case pos =>
      obtain ⟨T, f, x0, hx0, hTT, HST⟩ := above wr
      haveI : Nonempty T := ⟨x0⟩
      have HXX := Lib.hid hx0
      have HBX : Hid (∀ x, Below w.heap.size w (f x)) := Lib.hid (fun x => HBR.out.trans ((hTT x).mono HBR.out.size))
      have HTX : Hid (∀ x, Below wr.heap.size wr (f x)) := Lib.hid hTT
      clear hTT hx0
      have hyl : k < ys.length := by have := HT.out.len; omega
      obtain ⟨y, hye⟩ : ∃ y, ys[k]'hyl = y := ⟨_, rfl⟩
      have HKy := Lib.hid (rqn_at HD.out hyl hye)
      obtain ⟨hyn, hys, hyr⟩ := HT.out.at_ ys[k] (List.getElem_mem hyl)
      rw [hye] at hyn hys hyr
      have hry : ∀ x, (f x).cell? ⟨g, k * 3, none⟩ = some (.int .i64 y.p0) ∧ (f x).cell? ⟨g, k * 3 + 1, none⟩ = some (.slice y.A y.n y.c) ∧ (f x).cell? ⟨g, k * 3 + 2, none⟩ = some (.int .i64 y.q0) := fun x => by
        obtain ⟨_, f0, f1, f2⟩ := (HT.out.moved (HBX.out x)).rd.rqc hyl
        rw [Nat.zero_add, hye] at f0 f1 f2
        exact ⟨f0, f1, f2⟩
      obtain ⟨p0, A, mm, cc, zs, q0⟩ := y
      simp only at hry hyn hys hyr
      have ry0 := fun x => (hry x).1
      have ry1 := fun x => (hry x).2.1
      have ry2 := fun x => (hry x).2.2
      clear hry hye
      have hpl : k < bs.length := by have := HM.out; omega
      obtain ⟨p, hpe⟩ : ∃ p, bs[k]'hpl = p := ⟨_, rfl⟩
      have HKp := Lib.hid (bkn_at hpl hpe)
      have hbp : ∀ x, (f x).cell? ⟨gb, k * 2, none⟩ = some (.int .i64 p.a) ∧ (f x).cell? ⟨gb, k * 2 + 1, none⟩ = some (.int .i64 p.b) := fun x => by
        obtain ⟨_, f0, f1⟩ := (HRB.out.moved (HBX.out x)).q2c hpl
        rw [Nat.zero_add, hpe] at f0 f1
        exact ⟨f0, f1⟩
      have rp0 := fun x => (hbp x).1
      have rp1 := fun x => (hbp x).2
      clear hbp hpe
      have CG : Hid (∀ x, Calls Tryd.prog 150 #[.agg #[.int .i64 p.a, .int .i64 p.b]] (f x) (RetP (.bool (pb (blkP p.a p.b))) (f x))) := Lib.hid fun x => specBlk p.a p.b (f x)
      by_cases hbk : blkP p.a p.b
      case neg =>
        have HE := Lib.hid (HNO.out (fun h => hbk (by have := (h.2.1 k (by have := HLD.out; omega)).1; rw [HKp.out] at this; exact this)))
        rw [pb_false hbk] at CG
        clear hbk hyn hys hyr
        go_wp2_with fail
        refine wp_region_class f (by kernel_rfl) (by kernel_rfl) x0 HXX.out ?_
        repeat (go_big_quiet_step (first | (go_at_call 150; exact Calls.inClass HST (CG.out _))))
        refine wpQuiet_nil ?_
        rintro _ ⟨t, rfl⟩
        have HB3 := Lib.hid (HBX.out t)
        clear ry0 ry1 ry2 rp0 rp1
        go_wp2
        go_ret
        exact ⟨retb HE.out.symm, HB3.out⟩
      case pos =>
      rw [pb_true hbk] at CG
      by_cases hpq : p.b = q0
      case neg =>
        have HE := Lib.hid (HNO.out (fun h => hpq (by have := (h.2.1 k (by have := HLD.out; omega)).2; rw [HKp.out, HKy.out] at this; exact this)))
        clear hbk hyn hys hyr
        go_wp2_with fail
        refine wp_region_class f (by kernel_rfl) (by kernel_rfl) x0 HXX.out ?_
        repeat (go_big_quiet_step (first | (go_at_call 150; exact Calls.inClass HST (CG.out _))))
        refine wpQuiet_nil ?_
        rintro _ ⟨t, rfl⟩
        have HB3 := Lib.hid (HBX.out t)
        clear ry0 ry1 ry2 rp0 rp1
        have p3 : (p.b != q0) = true := bne_iff_ne.2 hpq
        go_wp2
        go_ret
        exact ⟨retb HE.out.symm, HB3.out⟩
      case pos =>
        have HOK2 : Hid (∀ j, j < k + 1 → okB ds bs j) := Lib.hid (fun j hj => by
          by_cases e : j = k
          · subst e; exact ⟨by rw [HKp.out]; exact hbk, by rw [HKp.out, HKy.out]; exact hpq⟩
          · exact HOK.out j (by omega))
        subst hpq
        clear hbk hyn hys hyr
        go_wp2_with fail
        refine wp_region_class f (by kernel_rfl) (by kernel_rfl) x0 HXX.out ?_
        repeat (go_big_quiet_step (first | (go_at_call 150; exact Calls.inClass HST (CG.out _))))
        refine wpQuiet_nil ?_
        rintro _ ⟨t, rfl⟩
        have HB3 := Lib.hid (HBX.out t)
        clear ry0 ry1 ry2 rp0 rp1
        go_wp2
        go_roundw
        case rel => exact ⟨k + 1, by omega, by go_num, HOK2, HB3.out⟩
        case measure => simp [intOf]; omega
    case neg =>
    obtain rfl : k = m := by omega
    clear hlt hk
    obtain ⟨wo, rfl⟩ : ∃ wo, wo = wr := ⟨wr, rfl⟩
    go_wp2
    go_loopw [6] (fun l wx => ∃ i : Nat, i ≤ k ∧ l = .int .i64 i ∧ Hid (∀ j, j < i → tkN ds bs j ds.length &&& bN (bkn bs j) = 0) ∧ Below w.heap.size w wx) (fun l _ => k - (intOf l).toNat)
    case atStart => exact ⟨0, Nat.zero_le _, rfl, Lib.hid (fun j hj => by omega), HBR.out⟩
    case round =>
      obtain ⟨i, hi, rfl, HZ, hbx⟩ := hrel
      have HBY := Lib.hid hbx
      clear hbx
      by_cases hli : i < k
      case neg =>
        have HE := Lib.hid (HYES.out (tk_is (by have := HM.out; have := HLD.out; omega) (fun j hj => HOK.out j (by have := HLD.out; omega)) (fun j hj => HZ.out j (by have := HLD.out; omega))))
        have hli2 : ¬ (i : Int) < k := by omega
        clear hli
        go_wp2
        go_ret
        exact ⟨retb HE.out.symm, HBY.out⟩
      case pos =>
      obtain ⟨T, f, x0, hx0, hTT, HST⟩ := above wr
      haveI : Nonempty T := ⟨x0⟩
      have HXX := Lib.hid hx0
      have HBX : Hid (∀ x, Below w.heap.size w (f x)) := Lib.hid (fun x => HBY.out.trans ((hTT x).mono HBY.out.size))
      have HTX : Hid (∀ x, Below wr.heap.size wr (f x)) := Lib.hid hTT
      clear hTT hx0
      have hpl : i < bs.length := by have := HM.out; omega
      obtain ⟨p, hpe⟩ : ∃ p, bs[i]'hpl = p := ⟨_, rfl⟩
      have HKp := Lib.hid (bkn_at hpl hpe)
      have hbp : ∀ x, (f x).cell? ⟨gb, i * 2, none⟩ = some (.int .i64 p.a) ∧ (f x).cell? ⟨gb, i * 2 + 1, none⟩ = some (.int .i64 p.b) := fun x => by
        obtain ⟨_, f0, f1⟩ := (HRB.out.moved (HBX.out x)).q2c hpl
        rw [Nat.zero_add, hpe] at f0 f1
        exact ⟨f0, f1⟩
      have rp0 := fun x => (hbp x).1
      have rp1 := fun x => (hbp x).2
      clear hbp hpe
      have HBLK : Hid (blkP p.a p.b) := Lib.hid (by have := (HOK.out i hli).1; rw [HKp.out] at this; exact this)
      obtain ⟨u, hu⟩ : ∃ u, bN p = u := ⟨_, rfl⟩
      have hu24 : u < 2 ^ 24 := by rw [← hu]; exact bN_lt HBLK.out
      have CB : Hid (∀ x, Calls Tryd.prog 152 #[.agg #[.int .i64 p.a, .int .i64 p.b]] (f x) (RetP (.int .i64 (u : Int)) (f x))) := Lib.hid fun x => by
        have h9 := specBits p.a p.b (f x) HBLK.out
        rw [bits_eq HBLK.out] at h9
        rw [← hu]; exact h9
      have CT : Hid (∀ x, Calls Tryd.prog 151 #[.slice (some ⟨g, 0, none⟩) k k, .slice (some ⟨gb, 0, none⟩) k k, .int .i64 (i : Int)] (f x) (RetP (.int .i64 (tkN ds bs i k : Nat)) (f x))) := Lib.hid fun x =>
        taken_ (HT.out.moved (HBX.out x)) HD.out hn7 HM.out (HRB.out.moved (HBX.out x)) (fun j hj => (HOK.out j hj).1) i hli
      obtain ⟨v, hv⟩ : ∃ v, tkN ds bs i k = v := ⟨_, rfl⟩
      have hv24 : v < 2 ^ 24 := by rw [← hv]; exact tk_lt (fun j hj => (HOK.out j hj).1)
      rw [hv] at CT
      have hand := and_i64q v u (by omega) (by omega)
      have HZE : Hid (tkN ds bs i ds.length &&& bN (bkn bs i) = v &&& u) := Lib.hid (by rw [HKp.out, hu, HLD.out, hv])
      obtain ⟨z, hz⟩ : ∃ z, v &&& u = z := ⟨_, rfl⟩
      rw [hz] at hand HZE
      clear hu hv hz
      by_cases hz0 : z = 0
      case neg =>
        have HE := Lib.hid (HNO.out (tk_isnt (i := i) (by have := HLD.out; omega) (by rw [HZE.out]; exact hz0)))
        have hz1 : (z : Int) ≠ 0 := by omega
        go_wp2_with fail
        refine wp_region_class f (by kernel_rfl) (by kernel_rfl) x0 HXX.out ?_
        repeat (go_big_quiet_step (first | (go_at_call 151; exact Calls.inClass HST (CT.out _)) | (go_at_call 152; exact Calls.inClass HST (CB.out _))))
        refine wpQuiet_nil ?_
        rintro _ ⟨t, rfl⟩
        have HB3 := Lib.hid (HBX.out t)
        have hz2 : ((z : Int) != 0) = true := bne_iff_ne.2 hz1
        clear rp0 rp1
        go_wp2
        go_ret
        exact ⟨retb HE.out.symm, HB3.out⟩
      case pos =>
        subst hz0
        have HZ2 : Hid (∀ j, j < i + 1 → tkN ds bs j ds.length &&& bN (bkn bs j) = 0) := Lib.hid (fun j hj => by
          by_cases e : j = i
          · subst e; exact HZE.out
          · exact HZ.out j (by omega))
        go_wp2_with fail
        refine wp_region_class f (by kernel_rfl) (by kernel_rfl) x0 HXX.out ?_
        repeat (go_big_quiet_step (first | (go_at_call 151; exact Calls.inClass HST (CT.out _)) | (go_at_call 152; exact Calls.inClass HST (CB.out _))))
        refine wpQuiet_nil ?_
        rintro _ ⟨t, rfl⟩
        have HB3 := Lib.hid (HBX.out t)
        clear rp0 rp1
        go_wp2
        go_roundw
        case rel => exact ⟨i + 1, by omega, by go_num, HZ2, HB3.out⟩
        case measure => simp [intOf]; omega
end Go.Proofs.YtbnfogedmjjiaaaDoor
