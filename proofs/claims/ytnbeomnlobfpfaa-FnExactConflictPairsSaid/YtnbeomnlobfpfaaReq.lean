/- Requests: contracts of spec.IsValidRequests and impl.IsValidRequests. No condition but those typed. -/
import Derived.Test.YtnbeomnlobfpfaaGC
import Derived.Test.YtnbeomnlobfpfaaGB
import Derived.Test.YtnbeomnlobfpfaaGA
namespace Go.Proofs.Ytnbeomnlobfpfaa
open Go.ChangeShapes Go.WideShapes Go.ChangeAt Go.RowKit

noncomputable def rqB (ss : List ByteArray) (fs : List Q4) (d : RqD) : Bool := routeB ss fs d.p0 d.zs && inB d.q0 1 24
noncomputable def reqsB (ss : List ByteArray) (fs : List Q4) (ds : List RqD) : Bool := pb (netP ss fs) && decide (ds.length ≤ 7) && ds.all (rqB ss fs)
theorem reqs_net {ss : List ByteArray} {fs : List Q4} {ds : List RqD} (h : ¬ netP ss fs) : reqsB ss fs ds = false := by unfold reqsB; rw [pb_false h]; rfl
theorem reqs_len {ss : List ByteArray} {fs : List Q4} {ds : List RqD} (h : ¬ ds.length ≤ 7) : reqsB ss fs ds = false := by unfold reqsB; rw [decide_eq_false h]; simp
theorem reqs_all {ss : List ByteArray} {fs : List Q4} {ds : List RqD} (h : netP ss fs) (hl : ds.length ≤ 7) : reqsB ss fs ds = ds.all (rqB ss fs) := by unfold reqsB; rw [pb_true h, decide_eq_true hl]; rfl
theorem rq_route {ss : List ByteArray} {fs : List Q4} {d : RqD} (h : routeB ss fs d.p0 d.zs = false) : rqB ss fs d = false := by unfold rqB; rw [h]; rfl
theorem rq_cnt {ss : List ByteArray} {fs : List Q4} {d : RqD} (h : inB d.q0 1 24 = false) : rqB ss fs d = false := by unfold rqB; rw [h]; simp
theorem rq_yes {ss : List ByteArray} {fs : List Q4} {d : RqD} (h : routeB ss fs d.p0 d.zs = true) (h2 : inB d.q0 1 24 = true) : rqB ss fs d = true := by unfold rqB; rw [h, h2]; rfl
theorem map_at {α β : Type} {f : α → β} {ys : List α} {ds : List β} (h : ys.map f = ds) {k : Nat} (hk : k < ys.length) : ∃ hk2 : k < ds.length, ds[k] = f ys[k] := by
  subst h; exact ⟨by simpa using hk, by simp⟩

set_option maxRecDepth 100000 in
set_option maxHeartbeats 4000000 in
theorem implReq {g1 g2 n1 n2 c1 c2 : Nat} {ss : List ByteArray} {fs : List Q4} {w : World} (h : NetAt g1 g2 n1 n2 c1 c2 ss fs w) {B g n : Nat} {ys : List Rq} {ds : List RqD} (hT : Rqs B g n ys w) (hd : ys.map Rq.d = ds) (hs : n ≤ 1048576) :
    Calls Try.prog 89 #[.agg #[.slice (some ⟨g1, 0, none⟩) n1 c1, .slice (some ⟨g2, 0, none⟩) n2 c2], .slice (some ⟨g, 0, none⟩) n n] w (RetP (.bool (reqsB ss fs ds)) w) := by
  have HNT := Lib.hid h; have HT := Lib.hid hT; have HD := Lib.hid hd
  have HL1 := Lib.hid h.ln1
  have HLD : Hid (ds.length = n) := Lib.hid (by rw [← hd, List.length_map]; exact hT.len)
  obtain ⟨r, hrr⟩ : ∃ r, reqsB ss fs ds = r := ⟨_, rfl⟩
  rw [hrr]
  have HRR := Lib.hid hrr
  clear h hT hd hrr
  go_enter Try.func89, Try.ntmps89
  go_wp2_with fail
  obtain ⟨W0, hW0⟩ : ∃ W0, w.alloc (Obj.cells #[.slice (some ⟨g1, 0, none⟩) n1 c1, .slice (some ⟨g2, 0, none⟩) n2 c2] 34) = W0 := ⟨_, rfl⟩
  have hb0 : Below w.heap.size w W0 := by rw [← hW0]; exact (Below.refl _ _).alloc (Nat.le_refl _) _
  have hk0 : W0.cell? ⟨w.heap.size, 0, none⟩ = some (.slice (some ⟨g1, 0, none⟩) n1 c1) := by rw [← hW0]; simp [go_sem]
  have hk1 : W0.cell? ⟨w.heap.size, 1, none⟩ = some (.slice (some ⟨g2, 0, none⟩) n2 c2) := by rw [← hW0]; simp [go_sem]
  have hz0 : w.heap.size < W0.heap.size := by rw [← hW0]; simp
  have HB0 := Lib.hid hb0; have HK0 := Lib.hid hk0; have HK1 := Lib.hid hk1; have HZB := Lib.hid hz0
  rw [hW0]
  clear hW0 hb0 hk0 hk1 hz0
  refine (implNet_ (HNT.out.moved HB0.out)).mono ?_
  rintro e w1 ⟨rfl, hb1⟩
  have HB1 := Lib.hid hb1
  have HB01 := Lib.hid (HB0.out.trans (hb1.mono HB0.out.size))
  clear hb1
  by_cases hv : netP ss fs
  case neg =>
    have HE : Hid (false = r) := Lib.hid (by rw [← HRR.out]; exact (reqs_net hv).symm)
    rw [pb_false hv]
    clear hv
    go_wp2
    go_ret
    exact ⟨retb HE.out, HB01.out⟩
  case pos =>
  have HV := Lib.hid hv
  rw [pb_true hv]
  clear hv
  by_cases hl : n ≤ 7
  case neg =>
    have HE : Hid (false = r) := Lib.hid (by rw [← HRR.out]; exact (reqs_len (by have := HLD.out; omega)).symm)
    have hl2 : 7 < (n : Int) := by omega
    clear hl
    go_wp2
    go_ret
    exact ⟨retb HE.out, HB01.out⟩
  case pos =>
  have HRA : Hid (r = ds.all (rqB ss fs)) := Lib.hid (by rw [← HRR.out]; exact reqs_all HV.out (by have := HLD.out; omega))
  have hl2 : (n : Int) ≤ 7 := by omega
  clear hl
  go_wp2
  go_loopw [19] (fun i wr => ∃ k : Nat, k ≤ n ∧ i = .int .i64 k ∧ Hid ((ds.take k).all (rqB ss fs) = true) ∧ Below w1.heap.size w1 wr) (fun i _ => n - (intOf i).toNat)
  case atStart => exact ⟨0, Nat.zero_le _, rfl, Lib.hid all_zero, Below.refl _ _⟩
  case round =>
    obtain ⟨k, hk, rfl, HA, hb⟩ := hrel
    have HBA := Lib.hid (HB1.out.trans (hb.mono HB1.out.size))
    have HBW := Lib.hid (HB0.out.trans (HBA.out.mono HB0.out.size))
    have HBR := Lib.hid hb
    by_cases hlt : k < n
    case neg =>
      have HE : Hid (true = r) := Lib.hid (by rw [HRA.out]; exact (all_end (n := k) (by have := HLD.out; omega) HA.out).symm)
      clear hb
      go_wp2
      go_ret
      exact ⟨retb HE.out, HBW.out⟩
    case pos =>
    have hky : k < ys.length := by have := HT.out.len; omega
    obtain ⟨hkd, hdk⟩ := map_at HD.out hky
    have HDK := Lib.hid hdk
    obtain ⟨hg, f0, f1, f2⟩ := (HT.out.moved HBW.out).rd.rqc hky
    rw [Nat.zero_add] at f0 f1 f2
    obtain ⟨hyn, hys, hyr⟩ := (HT.out.moved HBW.out).at_ ys[k] (List.getElem_mem hky)
    obtain ⟨y, hy⟩ : ∃ y, ys[k]'hky = y := ⟨_, rfl⟩
    rw [hy] at f0 f1 f2 hyn hys hyr HDK
    obtain ⟨p0, A, m, c, zs, q0⟩ := y
    simp only at f0 f1 f2 hyn hys hyr
    have HYN := Lib.hid hyn; have HYR := Lib.hid hyr
    have k0 := (HBA.out.cell (p := ⟨w.heap.size, 0, none⟩) HZB.out).trans HK0.out
    have k1 := (HBA.out.cell (p := ⟨w.heap.size, 1, none⟩) HZB.out).trans HK1.out
    have hzw : w.heap.size < wr.heap.size := Nat.lt_of_lt_of_le HZB.out HBA.out.size
    have HBZ := Lib.hid ((Below.refl wr.heap.size wr).alloc (Nat.le_refl _) (Obj.cells #[.int .i64 p0, .slice A m c, .int .i64 q0] 132))
    have HBX := Lib.hid (HBW.out.trans (HBZ.out.mono HBW.out.size))
    have CW := Lib.hid (walkAlong_ (c := c) (HNT.out.moved HBX.out) HV.out p0 HYN.out (HYR.out.moved HBZ.out) hys)
    have hne := Nat.ne_of_lt hzw
    clear hb hdk hy hyn hyr
    go_wp2_with fail
    obtain ⟨X, hX⟩ : ∃ X, wr.alloc (Obj.cells #[.int .i64 p0, .slice A m c, .int .i64 q0] 132) = X := ⟨_, rfl⟩
    have hx2 : X.cell? ⟨wr.heap.size, 2, none⟩ = some (.int .i64 q0) := by rw [← hX]; simp [go_sem]
    have hzx : wr.heap.size < X.heap.size := by rw [← hX]; simp
    rw [hX] at CW HBZ HBX ⊢
    clear hX f0 f1 f2 k0 k1
    refine CW.out.mono ?_
    rintro e w3 ⟨hb3, h3⟩
    have HB3 := Lib.hid (HBX.out.trans (hb3.mono HBX.out.size))
    have HB3R := Lib.hid (HBR.out.trans ((HBZ.out.trans (hb3.mono HBZ.out.size)).mono HBR.out.size))
    have l2 := (hb3.cell (p := ⟨wr.heap.size, 2, none⟩) hzx).trans hx2
    clear hb3 hx2 hzx
    rcases h3 with ⟨hs3, rfl⟩ | ⟨vs, g3, hs3, rfl, hl3⟩
    · have HE : Hid (false = r) := Lib.hid (by
        rw [HRA.out]
        exact (all_no hkd (by rw [HDK.out]; exact rq_route (routeB_no HV.out (by rw [HL1.out]; exact hs3)))).symm)
      clear hs3
      go_wp2
      go_ret
      exact ⟨retb HE.out, HB3.out⟩
    · have HRB : Hid (routeB ss fs p0 zs = true) := Lib.hid (routeB_some HV.out (by rw [HL1.out]; exact hs3))
      clear hs3 hl3
      by_cases hq1 : q0 < 1
      · have HE : Hid (false = r) := Lib.hid (by
          rw [HRA.out]
          exact (all_no hkd (by rw [HDK.out]; exact rq_cnt (inB_no (by show q0 < 1 ∨ 24 < q0; omega)))).symm)
        go_wp2
        go_ret
        exact ⟨retb HE.out, HB3.out⟩
      have hq2 : 1 ≤ q0 := by omega
      have hq3 : decide (q0 < 1) = false := decide_eq_false hq1
      clear hq1
      by_cases hq4 : 24 < q0
      · have HE : Hid (false = r) := Lib.hid (by
          rw [HRA.out]
          exact (all_no hkd (by rw [HDK.out]; exact rq_cnt (inB_no (by show q0 < 1 ∨ 24 < q0; omega)))).symm)
        go_wp2
        go_ret
        exact ⟨retb HE.out, HB3.out⟩
      have hq5 : q0 ≤ 24 := by omega
      have hq6 : decide (24 < q0) = false := decide_eq_false hq4
      have HS : Hid ((ds.take (k + 1)).all (rqB ss fs) = true) := Lib.hid (all_snoc hkd HA.out (by rw [HDK.out]; exact rq_yes HRB.out (inB_mk hq2 hq5)))
      clear hq4
      go_wp2
      go_roundw
      case rel => exact ⟨k + 1, by omega, by go_num, HS, HB3R.out⟩
      case measure => simp [intOf]; omega

set_option maxRecDepth 100000 in
set_option maxHeartbeats 4000000 in
theorem l12Good_ {g1 g2 n1 n2 c1 c2 : Nat} {ss : List ByteArray} {fs : List Q4} {w : World} (h : NetAt g1 g2 n1 n2 c1 c2 ss fs w) {B g n : Nat} {ys : List Rq} {ds : List RqD} (hT : Rqs B g n ys w) (hd : ys.map Rq.d = ds) (hs : n ≤ 1048576) :
    Calls Try.prog 84 #[.agg #[.slice (some ⟨g1, 0, none⟩) n1 c1, .slice (some ⟨g2, 0, none⟩) n2 c2], .slice (some ⟨g, 0, none⟩) n n] w (RetP (.bool (reqsB ss fs ds)) w) := by
  have HNT := Lib.hid h; have HT := Lib.hid hT; have HD := Lib.hid hd
  have HLD : Hid (ds.length = n) := Lib.hid (by rw [← hd, List.length_map]; exact hT.len)
  obtain ⟨r, hrr⟩ : ∃ r, reqsB ss fs ds = r := ⟨_, rfl⟩
  rw [hrr]
  have HRR := Lib.hid hrr
  clear h hT hd hrr
  go_enter Try.func84, Try.ntmps84
  go_wp2_with fail
  obtain ⟨W0, hW0⟩ : ∃ W0, w.alloc (Obj.cells #[.slice (some ⟨g1, 0, none⟩) n1 c1, .slice (some ⟨g2, 0, none⟩) n2 c2] 34) = W0 := ⟨_, rfl⟩
  have hb0 : Below w.heap.size w W0 := by rw [← hW0]; exact (Below.refl _ _).alloc (Nat.le_refl _) _
  have hk0 : W0.cell? ⟨w.heap.size, 0, none⟩ = some (.slice (some ⟨g1, 0, none⟩) n1 c1) := by rw [← hW0]; simp [go_sem]
  have hk1 : W0.cell? ⟨w.heap.size, 1, none⟩ = some (.slice (some ⟨g2, 0, none⟩) n2 c2) := by rw [← hW0]; simp [go_sem]
  have hz0 : w.heap.size < W0.heap.size := by rw [← hW0]; simp
  have HB0 := Lib.hid hb0; have HK0 := Lib.hid hk0; have HK1 := Lib.hid hk1; have HZB := Lib.hid hz0
  rw [hW0]
  clear hW0 hb0 hk0 hk1 hz0
  refine (specNet_ (HNT.out.moved HB0.out)).mono ?_
  rintro e w1 ⟨rfl, hb1⟩
  have HB1 := Lib.hid hb1
  have HB01 := Lib.hid (HB0.out.trans (hb1.mono HB0.out.size))
  clear hb1
  by_cases hv : netP ss fs
  case neg =>
    have HE : Hid (false = r) := Lib.hid (by rw [← HRR.out]; exact (reqs_net hv).symm)
    rw [pb_false hv]
    clear hv
    go_wp2
    go_ret
    exact ⟨retb HE.out, HB01.out⟩
  case pos =>
  have HV := Lib.hid hv
  rw [pb_true hv]
  clear hv
  by_cases hl : n ≤ 7
  case neg =>
    have HE : Hid (false = r) := Lib.hid (by rw [← HRR.out]; exact (reqs_len (by have := HLD.out; omega)).symm)
    have hl2 : 7 < (n : Int) := by omega
    clear hl
    go_wp2
    go_ret
    exact ⟨retb HE.out, HB01.out⟩
  case pos =>
  have HRA : Hid (r = ds.all (rqB ss fs)) := Lib.hid (by rw [← HRR.out]; exact reqs_all HV.out (by have := HLD.out; omega))
  have hl2 : (n : Int) ≤ 7 := by omega
  clear hl
  go_wp2
  go_loopw [5] (fun i wr => ∃ k : Nat, k ≤ n ∧ i = .int .i64 k ∧ Hid ((ds.take k).all (rqB ss fs) = true) ∧ Below w1.heap.size w1 wr) (fun i _ => n - (intOf i).toNat)
  case atStart => exact ⟨0, Nat.zero_le _, rfl, Lib.hid all_zero, Below.refl _ _⟩
  case round =>
    obtain ⟨k, hk, rfl, HA, hb⟩ := hrel
    have HBA := Lib.hid (HB1.out.trans (hb.mono HB1.out.size))
    have HBW := Lib.hid (HB0.out.trans (HBA.out.mono HB0.out.size))
    have HBR := Lib.hid hb
    by_cases hlt : k < n
    case neg =>
      have HE : Hid (true = r) := Lib.hid (by rw [HRA.out]; exact (all_end (n := k) (by have := HLD.out; omega) HA.out).symm)
      clear hb
      go_wp2
      go_ret
      exact ⟨retb HE.out, HBW.out⟩
    case pos =>
    have hky : k < ys.length := by have := HT.out.len; omega
    obtain ⟨hkd, hdk⟩ := map_at HD.out hky
    have HDK := Lib.hid hdk
    have HTM := Lib.hid (HT.out.moved HBW.out)
    obtain ⟨T, f, x0, hx0, hTT, HST⟩ := above wr
    haveI : Nonempty T := ⟨x0⟩
    have hbx : ∀ x, Below w.heap.size w (f x) := fun x => HBW.out.trans ((hTT x).mono HBW.out.size)
    have hba : ∀ x, Below W0.heap.size W0 (f x) := fun x => HBA.out.trans ((hTT x).mono HBA.out.size)
    have s0 : ∀ x, (f x).cell? ⟨w.heap.size, 0, none⟩ = some (.slice (some ⟨g1, 0, none⟩) n1 c1) := fun x => ((hba x).cell (p := ⟨w.heap.size, 0, none⟩) HZB.out).trans HK0.out
    have s1 : ∀ x, (f x).cell? ⟨w.heap.size, 1, none⟩ = some (.slice (some ⟨g2, 0, none⟩) n2 c2) := fun x => ((hba x).cell (p := ⟨w.heap.size, 1, none⟩) HZB.out).trans HK1.out
    obtain ⟨y, hy⟩ : ∃ y, ys[k]'hky = y := ⟨_, rfl⟩
    have hrow : ∀ x, (f x).cell? ⟨g, k * 3, none⟩ = some (.int .i64 y.p0) ∧ (f x).cell? ⟨g, k * 3 + 1, none⟩ = some (.slice y.A y.n y.c) ∧ (f x).cell? ⟨g, k * 3 + 2, none⟩ = some (.int .i64 y.q0) := fun x => by
      obtain ⟨_, f0, f1, f2⟩ := (HT.out.moved (hbx x)).rd.rqc hky
      rw [Nat.zero_add, hy] at f0 f1 f2
      exact ⟨f0, f1, f2⟩
    have hyy := (HT.out.at_ ys[k] (List.getElem_mem hky))
    rw [hy] at hyy HDK
    obtain ⟨p0, A, m, c, zs, q0⟩ := y
    obtain ⟨hyn, hys, hyr⟩ := hyy
    simp only at hrow hyn hys hyr
    have s2 := fun x => (hrow x).1
    have s3 := fun x => (hrow x).2.1
    have s4 := fun x => (hrow x).2.2
    have CO : Hid (∀ x, Calls Try.prog 98 #[.agg #[.slice (some ⟨g1, 0, none⟩) n1 c1, .slice (some ⟨g2, 0, none⟩) n2 c2], .agg #[.int .i64 p0, .slice A m c]] (f x) fun e w' => e = .returned (.bool (routeB ss fs p0 zs)) ∧ Below (f x).heap.size (f x) w') := Lib.hid fun x => l4Good_ (c := c) (HNT.out.moved (hbx x)) p0 hyn (hyr.moved (hbx x)) hys
    have CI : Hid (∀ x, Calls Try.prog 121 #[.int .i64 q0, .int .i64 1, .int .i64 24] (f x) fun e w' => e = .returned (.bool (inB q0 1 24)) ∧ Below (f x).heap.size (f x) w') := Lib.hid fun x => (in_ q0 1 24 (f x)).mono fun e w' ⟨h1, h2⟩ => ⟨h1, by subst h2; exact Below.refl _ _⟩
    have HT1 : Hid (∀ x, Below wr.heap.size wr (f x)) := Lib.hid hTT
    have HXX := Lib.hid hx0
    clear hrow hbx hba hTT hx0 hdk hy hyn hyr hb
    cases hb1 : routeB ss fs p0 zs
    case false =>
      rw [hb1] at CO
      have HE : Hid (false = r) := Lib.hid (by rw [HRA.out]; exact (all_no hkd (by rw [HDK.out]; exact rq_route hb1)).symm)
      clear hb1
      go_wp2
      refine wp_region_class f (by kernel_rfl) (by kernel_rfl) x0 HXX.out ?_
      repeat (go_big_quiet_step (first | (go_at_call 98; exact Calls.inClass HST (CO.out _)) | (go_at_call 121; exact Calls.inClass HST (CI.out _))))
      refine wpQuiet_nil ?_
      rintro _ ⟨x, rfl⟩
      have HB2 := Lib.hid (HBW.out.trans ((HT1.out x).mono HBW.out.size))
      clear s0 s1 s2 s3 s4
      go_wp2
      go_ret
      exact ⟨retb HE.out, HB2.out⟩
    case true =>
    rw [hb1] at CO
    cases hb2 : inB q0 1 24
    case false =>
      rw [hb2] at CI
      have HE : Hid (false = r) := Lib.hid (by rw [HRA.out]; exact (all_no hkd (by rw [HDK.out]; exact rq_cnt hb2)).symm)
      clear hb1 hb2
      go_wp2
      refine wp_region_class f (by kernel_rfl) (by kernel_rfl) x0 HXX.out ?_
      repeat (go_big_quiet_step (first | (go_at_call 98; exact Calls.inClass HST (CO.out _)) | (go_at_call 121; exact Calls.inClass HST (CI.out _))))
      refine wpQuiet_nil ?_
      rintro _ ⟨x, rfl⟩
      have HB2 := Lib.hid (HBW.out.trans ((HT1.out x).mono HBW.out.size))
      clear s0 s1 s2 s3 s4
      go_wp2
      go_ret
      exact ⟨retb HE.out, HB2.out⟩
    case true =>
    rw [hb2] at CI
    have HS : Hid ((ds.take (k + 1)).all (rqB ss fs) = true) := Lib.hid (all_snoc hkd HA.out (by rw [HDK.out]; exact rq_yes hb1 hb2))
    clear hb1 hb2
    go_wp2
    refine wp_region_class f (by kernel_rfl) (by kernel_rfl) x0 HXX.out ?_
    repeat (go_big_quiet_step (first | (go_at_call 98; exact Calls.inClass HST (CO.out _)) | (go_at_call 121; exact Calls.inClass HST (CI.out _))))
    refine wpQuiet_nil ?_
    rintro _ ⟨x, rfl⟩
    have HB2 := Lib.hid (HBR.out.trans ((HT1.out x).mono HBR.out.size))
    clear s0 s1 s2 s3 s4
    go_wp2
    go_roundw
    case rel => exact ⟨k + 1, by omega, by go_num, HS, HB2.out⟩
    case measure => simp [intOf]; omega
end Go.Proofs.Ytnbeomnlobfpfaa
