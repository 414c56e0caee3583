/- Assignments: contracts of CheckAssignment, both sides. No condition but those typed. -/
import Derived.Test.YtbnfogedmjjiaaaDoorCaS
namespace Go.Proofs.YtbnfogedmjjiaaaDoor
open Go.ChangeShapes Go.WideShapes Go.ChangeAt Go.RowKit Go.Maps

set_option maxRecDepth 100000 in
set_option maxHeartbeats 8000000 in
theorem implCA {g1 g2 n1 n2 c1 c2 : Nat} {ss : List ByteArray} {fs : List Q4} {w : World} (h : NetAt g1 g2 n1 n2 c1 c2 ss fs w) {B g n : Nat} {ys : List Rq} {ds : List RqD} (hT : Rqs B g n ys w) (hd : ys.map Rq.d = ds) (hs : n ≤ 1048576) {gb m : Nat} {bs : List Q2} (hm : bs.length = m) (hrb : Rd w w.heap.size (some ⟨gb, 0, none⟩) (bs.flatMap Q2.cells)) (hs2 : m ≤ 1048576) :
    Calls Tryd.prog 92 #[.agg #[.slice (some ⟨g1, 0, none⟩) n1 c1, .slice (some ⟨g2, 0, none⟩) n2 c2], .slice (some ⟨g, 0, none⟩) n n, .slice (some ⟨gb, 0, none⟩) m m] w (RetP (caR ss fs ds bs) w) := by
  have HNT := Lib.hid h; have HT := Lib.hid hT; have HD := Lib.hid hd; have HM := Lib.hid hm; have HRB := Lib.hid hrb
  have HLD : Hid (ds.length = n) := Lib.hid (by rw [← hd, List.length_map]; exact hT.len)
  clear h hT hd hm hrb
  obtain ⟨R, hR⟩ : ∃ r, caR ss fs ds bs = r := ⟨_, rfl⟩
  have HNO : Hid (¬ caP ss fs ds bs → (.tuple #[.int .i64 0, .bool false] : Value) = R) := Lib.hid (fun e => by rw [← hR]; exact ca_no e)
  have HYES : Hid (caP ss fs ds bs → (.tuple #[.int .i64 (hgtQ bs bs.length), .bool true] : Value) = R) := Lib.hid (fun e => by rw [← hR]; exact ca_yes e)
  rw [hR]
  clear hR
  go_enter Tryd.func92, Tryd.ntmps92
  go_wp2_with fail
  obtain ⟨W0, hW0⟩ : ∃ W0, (w.alloc (Obj.cells #[.slice (some ⟨g1, 0, none⟩) n1 c1, .slice (some ⟨g2, 0, none⟩) n2 c2] 34)) = W0 := ⟨_, rfl⟩
  have hb0 : Below w.heap.size w W0 := by rw [← hW0]; exact (Below.refl _ _).alloc (Nat.le_refl _) _
  have HB0 := Lib.hid hb0
  rw [hW0]
  clear hW0 hb0
  have CV := Lib.hid (implReq (HNT.out.moved HB0.out) (HT.out.moved HB0.out) HD.out hs)
  obtain ⟨v, hv⟩ : ∃ v, reqsB ss fs ds = v := ⟨_, rfl⟩
  rw [hv] at CV
  have HVB := Lib.hid hv
  clear hv
  refine CV.out.mono ?_
  rintro e w1 ⟨rfl, hb1⟩
  have HB1 := Lib.hid (HB0.out.trans (hb1.mono HB0.out.size))
  clear hb1 CV
  cases v
  case false =>
    have HE := Lib.hid (HNO.out (fun hp => by have h1 := hp.1; rw [HVB.out] at h1; cases h1))
    go_wp2
    go_ret2
    exact ⟨ret_tupC HE.out, HB1.out⟩
  case true =>
  have HF := Lib.hid (reqs_facts HVB.out)
  have hn7 : n ≤ 7 := by have := HF.out.2.1; have := HLD.out; omega
  by_cases hmn : m = n
  case neg =>
    have HE := Lib.hid (HNO.out (fun h => hmn (by have := h.2.1; have := HM.out; have := HLD.out; omega)))
    have p1 : ((m : Int) != (n : Int)) = true := bne_iff_ne.2 (by omega)
    have p2 : (m != n) = true := bne_iff_ne.2 hmn
    clear hmn
    go_wp2
    go_ret2
    exact ⟨ret_tupC HE.out, HB1.out⟩
  case pos =>
  subst hmn
  have HFB : Hid (∀ k, k < m → ∀ j, j < (rqn ds k).zs.length → 0 ≤ nth (rqn ds k).zs j ∧ nth (rqn ds k).zs j < 20) := Lib.hid (fun k hk => reqs_mem HVB.out k (by have := HLD.out; omega))
  go_wp2
  go_loopw [24] (fun l wr => ∃ i : Nat, i ≤ m ∧ l = .int .i64 i ∧ Hid (∀ j, j < i → okB ds bs j ∧ ∀ k, k < j → ¬ clP ds bs j k) ∧ Below w.heap.size w wr) (fun l _ => m - (intOf l).toNat)
  case atStart => exact ⟨0, Nat.zero_le _, rfl, Lib.hid (fun j hj => by omega), HB1.out⟩
  case round =>
    obtain ⟨i, hi, rfl, HOK, hb⟩ := hrel
    have HBR := Lib.hid hb
    clear hb
    obtain ⟨wo, rfl⟩ : ∃ wo, wo = wr := ⟨wr, rfl⟩
    by_cases hlt : i < m
    case neg =>
      obtain rfl : i = m := by omega
      have HP : Hid (isP ds bs) := Lib.hid ⟨by have := HM.out; have := HLD.out; omega, fun j hj => (HOK.out j (by have := HLD.out; omega)).1, fun j k hk hj => (HOK.out j (by have := HLD.out; omega)).2 k hk⟩
      have HE := Lib.hid (HYES.out ⟨HVB.out, HP.out⟩)
      rw [HM.out] at HE
      have CH := Lib.hid (heightOf_ (w := wo) HM.out (HRB.out.moved HBR.out) hs2 (fun t ht => by have h9 := (HP.out.2.1 t (by have := HP.out.1; omega)).1; rw [bkn_at ht rfl] at h9; exact h9))
      clear hlt
      go_wp2_with fail
      refine CH.out.mono ?_
      rintro e w3 ⟨rfl, hb3⟩
      have HB3 := Lib.hid (HBR.out.trans (hb3.mono HBR.out.size))
      clear hb3
      go_wp2
      go_ret2
      exact ⟨ret_tupC HE.out, HB3.out⟩
    case pos =>
    have hqsl : i < bs.length := by have := HM.out; omega
    obtain ⟨q, hqse⟩ : ∃ p, bs[i]'hqsl = p := ⟨_, rfl⟩
    have HKq := Lib.hid (bkn_at hqsl hqse)
    obtain ⟨_, b0, b1⟩ := (HRB.out.moved HBR.out).q2c hqsl
    rw [Nat.zero_add, hqse] at b0 b1
    clear hqse
    obtain ⟨W2, hW2⟩ : ∃ W2, wo.alloc (Obj.cells #[.int .i64 q.a, .int .i64 q.b] 125) = W2 := ⟨_, rfl⟩
    have hbn : Below wo.heap.size wo W2 := by rw [← hW2]; exact (Below.refl _ _).alloc (Nat.le_refl _) _
    have hc0 : W2.cell? ⟨wo.heap.size, 0, none⟩ = some (.int .i64 q.a) := by rw [← hW2]; simp [go_sem]
    have hc1 : W2.cell? ⟨wo.heap.size, 1, none⟩ = some (.int .i64 q.b) := by rw [← hW2]; simp [go_sem]
    have hz2 : wo.heap.size < W2.heap.size := by rw [← hW2]; simp
    have HB2 := Lib.hid (HBR.out.trans (hbn.mono HBR.out.size))
    have HC0 := Lib.hid hc0; have HC1 := Lib.hid hc1; have HZ2 := Lib.hid hz2; have HW2 := Lib.hid hW2
    clear hW2 hbn hc0 hc1 hz2
    go_wp2_with fail
    rw [HW2.out]
    clear b0 b1
    obtain ⟨T, f, x0, hx0, hTT, HST⟩ := above W2
    haveI : Nonempty T := ⟨x0⟩
    have HXX := Lib.hid hx0
    have HBX : Hid (∀ x, Below w.heap.size w (f x)) := Lib.hid (fun x => HB2.out.trans ((hTT x).mono HB2.out.size))
    have HTX : Hid (∀ x, Below W2.heap.size W2 (f x)) := Lib.hid hTT
    clear hTT hx0
    have hyl : i < ys.length := by have := HT.out.len; omega
    obtain ⟨y, hye⟩ : ∃ y, ys[i]'hyl = y := ⟨_, rfl⟩
    have HKy := Lib.hid (rqn_at HD.out hyl hye)
    obtain ⟨hyn, hys, hyr⟩ := HT.out.at_ ys[i] (List.getElem_mem hyl)
    rw [hye] at hyn hys hyr
    have hry : ∀ x, (f x).cell? ⟨g, i * 3, none⟩ = some (.int .i64 y.p0) ∧ (f x).cell? ⟨g, i * 3 + 1, none⟩ = some (.slice y.A y.n y.c) ∧ (f x).cell? ⟨g, i * 3 + 2, none⟩ = some (.int .i64 y.q0) := fun x => by
      obtain ⟨_, f0, f1, f2⟩ := (HT.out.moved (HBX.out x)).rd.rqc hyl
      rw [Nat.zero_add, hye] at f0 f1 f2
      exact ⟨f0, f1, f2⟩
    have HYE := Lib.hid hye
    obtain ⟨p0, A, mm, cc, zs, q0⟩ := y
    simp only at hry hyn hys hyr
    have ry0 := fun x => (hry x).1
    have ry1 := fun x => (hry x).2.1
    have ry2 := fun x => (hry x).2.2
    clear hry hye
    have rb0 : ∀ x, (f x).cell? ⟨wo.heap.size, 0, none⟩ = some (.int .i64 q.a) := fun x => ((HTX.out x).cell (p := ⟨wo.heap.size, 0, none⟩) HZ2.out).trans HC0.out
    have rb1 : ∀ x, (f x).cell? ⟨wo.heap.size, 1, none⟩ = some (.int .i64 q.b) := fun x => ((HTX.out x).cell (p := ⟨wo.heap.size, 1, none⟩) HZ2.out).trans HC1.out
    have CG : Hid (∀ x, Calls Tryd.prog 154 #[.agg #[.int .i64 q.a, .int .i64 q.b]] (f x) (RetP (.bool (pb (blkP q.a q.b))) (f x))) := Lib.hid fun x => implBlk q.a q.b (f x)
    by_cases hbk : blkP q.a q.b
    case neg =>
      have HE := Lib.hid (HNO.out (fun h => hbk (by have := (h.2.2.1 i (by have := HLD.out; omega)).1; rw [HKq.out] at this; exact this)))
      rw [pb_false hbk] at CG
      clear hbk hyn hys hyr
      go_wp2_with fail
      refine wp_region_class f (by kernel_rfl) (by kernel_rfl) x0 HXX.out ?_
      repeat (go_big_quiet_step (first | (go_at_call 154; exact Calls.inClass HST (CG.out _))))
      refine wpQuiet_nil ?_
      rintro _ ⟨t, rfl⟩
      have HB3 := Lib.hid (HBX.out t)
      clear ry0 ry1 ry2 rb0 rb1
      go_wp2
      go_ret2
      exact ⟨ret_tupC HE.out, HB3.out⟩
    case pos =>
    rw [pb_true hbk] at CG
    by_cases hpq : q.b = q0
    case neg =>
      have HE := Lib.hid (HNO.out (fun h => hpq (by have := (h.2.2.1 i (by have := HLD.out; omega)).2; rw [HKq.out, HKy.out] at this; exact this)))
      clear hbk hyn hys hyr
      go_wp2_with fail
      refine wp_region_class f (by kernel_rfl) (by kernel_rfl) x0 HXX.out ?_
      repeat (go_big_quiet_step (first | (go_at_call 154; exact Calls.inClass HST (CG.out _))))
      refine wpQuiet_nil ?_
      rintro _ ⟨t, rfl⟩
      have HB3 := Lib.hid (HBX.out t)
      clear ry0 ry1 ry2 rb0 rb1
      have p3 : (q.b != q0) = true := bne_iff_ne.2 hpq
      go_wp2
      go_ret2
      exact ⟨ret_tupC HE.out, HB3.out⟩
    case pos =>
    have HOKI : Hid (okB ds bs i) := Lib.hid ⟨by rw [HKq.out]; exact hbk, by rw [HKq.out, HKy.out]; exact hpq⟩
    have HBLQ := Lib.hid hbk
    have HPQ := Lib.hid hpq
    rw [← hpq] at ry2
    clear hbk hpq
    have HYN := Lib.hid hyn; have HYR := Lib.hid hyr
    clear hyn hyr
    go_wp2_with fail
    refine wp_region_class f (by kernel_rfl) (by kernel_rfl) x0 HXX.out ?_
    repeat (go_big_quiet_step (first | (go_at_call 154; exact Calls.inClass HST (CG.out _))))
    refine wpQuiet_nil ?_
    rintro _ ⟨t, rfl⟩
    have HB3 := Lib.hid (HBX.out t)
    obtain ⟨W3, hW3⟩ : ∃ W3, f t = W3 := ⟨_, rfl⟩
    have HQ0 := Lib.hid (rb0 t); have HQ1 := Lib.hid (rb1 t)
    have HZ3 : Hid (wo.heap.size < (f t).heap.size) := Lib.hid (Nat.lt_of_lt_of_le HZ2.out (HTX.out t).size)
    rw [hW3] at HB3 HQ0 HQ1 HZ3 ⊢
    clear ry0 ry1 ry2 rb0 rb1 hW3 HBX HTX HXX HST CG
    clear f x0 t
    go_wp2
    go_loopw [43] (fun l wx => ∃ k : Nat, k ≤ i ∧ l = .int .i64 k ∧ Hid (∀ j, j < k → ¬ clP ds bs i j) ∧ Below W3.heap.size W3 wx) (fun l _ => i - (intOf l).toNat)
    case atStart => exact ⟨0, Nat.zero_le _, rfl, Lib.hid (fun j hj => by omega), Below.refl _ _⟩
    case round =>
      obtain ⟨k, hk, rfl, HNC, hbx⟩ := hrel
      have HBY := Lib.hid (HB3.out.trans (hbx.mono HB3.out.size))
      have HBZ := Lib.hid hbx
      clear hbx
      by_cases hlk : k < i
      case neg =>
        have HOK2 : Hid (∀ j, j < i + 1 → okB ds bs j ∧ ∀ k, k < j → ¬ clP ds bs j k) := Lib.hid (fun j hj => by
          by_cases e : j = i
          · subst e; exact ⟨HOKI.out, fun k' hk' => HNC.out k' (by omega)⟩
          · exact HOK.out j (by omega))
        have hlk2 : ¬ (k : Int) < i := by omega
        clear hlk
        go_wp2
        go_roundw
        case rel => exact ⟨i + 1, by omega, by go_num, HOK2, HBY.out⟩
        case measure => simp [intOf]; omega
      case pos =>
      obtain ⟨T, f, x0, hx0, hTT, HST⟩ := above wr
      haveI : Nonempty T := ⟨x0⟩
      have HXX := Lib.hid hx0
      have HBX : Hid (∀ x, Below w.heap.size w (f x)) := Lib.hid (fun x => HBY.out.trans ((hTT x).mono HBY.out.size))
      have HTX : Hid (∀ x, Below wr.heap.size wr (f x)) := Lib.hid hTT
      clear hTT hx0
      have hkm : k < m := by omega
      have hyl2 : i < ys.length := by have := HT.out.len; omega
      have hry : ∀ x, (f x).cell? ⟨g, i * 3, none⟩ = some (.int .i64 p0) ∧ (f x).cell? ⟨g, i * 3 + 1, none⟩ = some (.slice A mm cc) ∧ (f x).cell? ⟨g, i * 3 + 2, none⟩ = some (.int .i64 q0) := fun x => by
        obtain ⟨_, f0, f1, f2⟩ := (HT.out.moved (HBX.out x)).rd.rqc hyl2
        rw [Nat.zero_add] at f0 f1 f2
        rw [HYE.out] at f0 f1 f2
        exact ⟨f0, f1, f2⟩
      have ry0 := fun x => (hry x).1
      have ry1 := fun x => (hry x).2.1
      have ry2 := fun x => (hry x).2.2
      clear hry
      have hzl : k < ys.length := by have := HT.out.len; omega
      obtain ⟨z, hze⟩ : ∃ y, ys[k]'hzl = y := ⟨_, rfl⟩
      have HKz := Lib.hid (rqn_at HD.out hzl hze)
      obtain ⟨hzn, hzs, hzr⟩ := HT.out.at_ ys[k] (List.getElem_mem hzl)
      rw [hze] at hzn hzs hzr
      have hrz : ∀ x, (f x).cell? ⟨g, k * 3, none⟩ = some (.int .i64 z.p0) ∧ (f x).cell? ⟨g, k * 3 + 1, none⟩ = some (.slice z.A z.n z.c) ∧ (f x).cell? ⟨g, k * 3 + 2, none⟩ = some (.int .i64 z.q0) := fun x => by
        obtain ⟨_, f0, f1, f2⟩ := (HT.out.moved (HBX.out x)).rd.rqc hzl
        rw [Nat.zero_add, hze] at f0 f1 f2
        exact ⟨f0, f1, f2⟩
      obtain ⟨p1, A2, m2, c2, ks, q1⟩ := z
      simp only at hrz hzn hzs hzr
      have rz0 := fun x => (hrz x).1
      have rz1 := fun x => (hrz x).2.1
      have rz2 := fun x => (hrz x).2.2
      clear hrz hze
      have hpl : k < bs.length := by have := HM.out; omega
      obtain ⟨p, hpe⟩ : ∃ p, bs[k]'hpl = p := ⟨_, rfl⟩
      have HKp := Lib.hid (bkn_at hpl hpe)
      have hbp : ∀ x, (f x).cell? ⟨gb, k * 2, none⟩ = some (.int .i64 p.a) ∧ (f x).cell? ⟨gb, k * 2 + 1, none⟩ = some (.int .i64 p.b) := fun x => by
        obtain ⟨_, f0, f1⟩ := (HRB.out.moved (HBX.out x)).q2c hpl
        rw [Nat.zero_add, hpe] at f0 f1
        exact ⟨f0, f1⟩
      have rp0 := fun x => (hbp x).1
      have rp1 := fun x => (hbp x).2
      clear hbp hpe
      have rb0 : ∀ x, (f x).cell? ⟨wo.heap.size, 0, none⟩ = some (.int .i64 q.a) := fun x => (((HBZ.out.trans ((HTX.out x).mono HBZ.out.size)).cell (p := ⟨wo.heap.size, 0, none⟩) HZ3.out)).trans HQ0.out
      have rb1 : ∀ x, (f x).cell? ⟨wo.heap.size, 1, none⟩ = some (.int .i64 q.b) := fun x => (((HBZ.out.trans ((HTX.out x).mono HBZ.out.size)).cell (p := ⟨wo.heap.size, 1, none⟩) HZ3.out)).trans HQ1.out
      have HBLP : Hid (blkP p.a p.b) := Lib.hid (by have := (HOK.out k hlk).1.1; rw [HKp.out] at this; exact this)
      have CO : Hid (∀ x, Calls Tryd.prog 155 #[.agg #[.int .i64 q.a, .int .i64 q.b], .agg #[.int .i64 p.a, .int .i64 p.b]] (f x) (RetP (.bool (pb (ovP q p))) (f x))) := Lib.hid fun x => ovl_ HBLQ.out HBLP.out (f x)
      have CF : Hid (∀ x, Calls Tryd.prog 147 #[.agg #[.int .i64 p0, .slice A mm cc, .int .i64 q0], .agg #[.int .i64 p1, .slice A2 m2 c2, .int .i64 q1]] (f x) (RetP (.bool (zs.any fun f => decide (f ∈ ks))) (f x))) := Lib.hid fun x =>
        areCf_ p0 q0 p1 q1 HYN.out hys (HYR.out.moved (HBX.out x)) hzn hzs (hzr.moved (HBX.out x))
          (fun j hj => by have h9 := HFB.out i hlt j (by rw [HKy.out]; have := HYN.out; exact (by omega : j < zs.length)); rw [HKy.out] at h9; exact h9)
          (fun j hj => by have h9 := HFB.out k hkm j (by rw [HKz.out]; exact (by omega : j < ks.length)); rw [HKz.out] at h9; exact h9)
      obtain ⟨b, hbe⟩ : ∃ b, (zs.any fun f => decide (f ∈ ks)) = b := ⟨_, rfl⟩
      obtain ⟨b2, hbe2⟩ : ∃ b, pb (ovP q p) = b := ⟨_, rfl⟩
      rw [hbe] at CF
      rw [hbe2] at CO
      have HCL : Hid (clP ds bs i k ↔ b = true ∧ b2 = true) := Lib.hid (by
        unfold clP
        rw [HKy.out, HKz.out, HKp.out, HKq.out]
        constructor
        · rintro ⟨h1, h2⟩; exact ⟨by rw [← hbe]; exact h1, by rw [← hbe2]; exact pb_true h2⟩
        · rintro ⟨h1, h2⟩; exact ⟨by rw [← hbe] at h1; exact h1, of_pb (by rw [hbe2]; exact h2)⟩)
      clear hzn hzs hzr hbe hbe2
      cases b
      case false =>
        have HNC2 : Hid (∀ j, j < k + 1 → ¬ clP ds bs i j) := Lib.hid (fun j hj => by
          by_cases e : j = k
          · subst e; intro h; have := (HCL.out.1 h).1; cases this
          · exact HNC.out j (by omega))
        go_wp2_with fail
        refine wp_region_class f (by kernel_rfl) (by kernel_rfl) x0 HXX.out ?_
        repeat (go_big_quiet_step (first | (go_at_call 147; exact Calls.inClass HST (CF.out _)) | (go_at_call 155; exact Calls.inClass HST (CO.out _))))
        refine wpQuiet_nil ?_
        rintro _ ⟨t, rfl⟩
        have HB4 := Lib.hid (HBZ.out.trans ((HTX.out t).mono HBZ.out.size))
        clear ry0 ry1 ry2 rz0 rz1 rz2 rp0 rp1 rb0 rb1
        go_wp2
        go_roundw
        case rel => exact ⟨k + 1, by omega, by go_num, HNC2, HB4.out⟩
        case measure => simp [intOf]; omega
      case true =>
      cases b2
      case false =>
        have HNC2 : Hid (∀ j, j < k + 1 → ¬ clP ds bs i j) := Lib.hid (fun j hj => by
          by_cases e : j = k
          · subst e; intro h; have := (HCL.out.1 h).2; cases this
          · exact HNC.out j (by omega))
        go_wp2_with fail
        refine wp_region_class f (by kernel_rfl) (by kernel_rfl) x0 HXX.out ?_
        repeat (go_big_quiet_step (first | (go_at_call 147; exact Calls.inClass HST (CF.out _)) | (go_at_call 155; exact Calls.inClass HST (CO.out _))))
        refine wpQuiet_nil ?_
        rintro _ ⟨t, rfl⟩
        have HB4 := Lib.hid (HBZ.out.trans ((HTX.out t).mono HBZ.out.size))
        clear ry0 ry1 ry2 rz0 rz1 rz2 rp0 rp1 rb0 rb1
        go_wp2
        go_roundw
        case rel => exact ⟨k + 1, by omega, by go_num, HNC2, HB4.out⟩
        case measure => simp [intOf]; omega
      case true =>
        have HE := Lib.hid (HNO.out (fun h => h.2.2.2 i k hlk (by have := HLD.out; omega) (HCL.out.2 ⟨rfl, rfl⟩)))
        go_wp2_with fail
        refine wp_region_class f (by kernel_rfl) (by kernel_rfl) x0 HXX.out ?_
        repeat (go_big_quiet_step (first | (go_at_call 147; exact Calls.inClass HST (CF.out _)) | (go_at_call 155; exact Calls.inClass HST (CO.out _))))
        refine wpQuiet_nil ?_
        rintro _ ⟨t, rfl⟩
        have HB4 := Lib.hid (HBX.out t)
        clear ry0 ry1 ry2 rz0 rz1 rz2 rp0 rp1 rb0 rb1
        go_wp2
        go_ret2
        exact ⟨ret_tupC HE.out, HB4.out⟩
end Go.Proofs.YtbnfogedmjjiaaaDoor
