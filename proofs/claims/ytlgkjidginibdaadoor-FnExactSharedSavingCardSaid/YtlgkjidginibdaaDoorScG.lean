/- Whether a list of services is valid: contract of the specification. No condition but those typed. -/
import Derived.Test.YtlgkjidginibdaaDoorSvG
import Derived.BigRegion
import Derived.BigQuiet
namespace Go.Proofs.YtlgkjidginibdaaDoor
open Go.ChangeShapes Go.WideShapes Go.ChangeAt Go.RowKit

set_option maxRecDepth 100000 in
set_option maxHeartbeats 2000000 in
theorem l13Good_ {g1 g2 g3 n1 n2 n3 c1 c2 B : Nat} {ss : List ByteArray} {fs : List Q4} {ys : List Sv} {ds : List SvD} {w : World} (h : NetAt g1 g2 n1 n2 c1 c2 ss fs w) (hT : Svs B g3 n3 ys w) (hd : ys.map Sv.d = ds) (hs : n3 ≤ 1048576) :
    Calls Tryd.prog 27 #[.agg #[.slice (some ⟨g1, 0, none⟩) n1 c1, .slice (some ⟨g2, 0, none⟩) n2 c2], .slice (some ⟨g3, 0, none⟩) n3 n3] w (RetP (.bool (pb (svsP ss fs ds))) w) := by
  have HNT := Lib.hid h; have HT := Lib.hid hT; have HD := Lib.hid hd
  have HLD : Hid (ds.length = n3) := Lib.hid (by rw [← hd, List.length_map]; exact hT.len)
  obtain ⟨r, hrr⟩ : ∃ r, pb (svsP ss fs ds) = r := ⟨_, rfl⟩
  rw [hrr]
  have HRR := Lib.hid hrr
  clear h hT hd hrr
  go_enter Tryd.func27, Tryd.ntmps27
  go_wp2_with fail
  obtain ⟨W0, hW0⟩ : ∃ W0, w.alloc (Obj.cells #[.slice (some ⟨g1, 0, none⟩) n1 c1, .slice (some ⟨g2, 0, none⟩) n2 c2] 34) = W0 := ⟨_, rfl⟩
  have hb0 : Below w.heap.size w W0 := by rw [← hW0]; exact (Below.refl _ _).alloc (Nat.le_refl _) _
  have hk0 : W0.cell? ⟨w.heap.size, 0, none⟩ = some (.slice (some ⟨g1, 0, none⟩) n1 c1) := by rw [← hW0]; simp [go_sem]
  have hk1 : W0.cell? ⟨w.heap.size, 1, none⟩ = some (.slice (some ⟨g2, 0, none⟩) n2 c2) := by rw [← hW0]; simp [go_sem]
  have hz0 : w.heap.size < W0.heap.size := by rw [← hW0]; simp
  have HB0 := Lib.hid hb0; have HK0 := Lib.hid hk0; have HK1 := Lib.hid hk1; have HZB := Lib.hid hz0
  rw [hW0]
  clear hW0 hb0 hk0 hk1 hz0
  refine (specNet_ (HNT.out.moved HB0.out)).mono ?_
  rintro e w1 ⟨rfl, hb1⟩
  have HB1 := Lib.hid hb1
  have HB01 := Lib.hid (HB0.out.trans (hb1.mono HB0.out.size))
  clear hb1
  by_cases hv : netP ss fs
  case neg =>
    have HE : Hid (false = r) := Lib.hid (by rw [← HRR.out]; exact (svs_net hv).symm)
    rw [pb_false hv]
    clear hv
    go_wp2
    go_ret
    exact ⟨retb HE.out, HB01.out⟩
  case pos =>
  have HV := Lib.hid hv
  rw [pb_true hv]
  clear hv
  by_cases hl : n3 ≤ 8
  case neg =>
    have HE : Hid (false = r) := Lib.hid (by rw [← HRR.out]; exact (svs_len (by have := HLD.out; omega)).symm)
    have hl2 : 8 < (n3 : Int) := by omega
    clear hl
    go_wp2
    go_ret
    exact ⟨retb HE.out, HB01.out⟩
  case pos =>
  have HL12 := Lib.hid hl
  have hl2 : (n3 : Int) ≤ 8 := by omega
  clear hl
  go_wp2
  go_loopw [5] (fun i wr => ∃ k : Nat, k ≤ n3 ∧ i = .int .i64 k ∧ Hid (∀ i, i < k → svStep ss fs ds i) ∧ Hid (∀ i j, j < i → i < k → coD fs (svn ds j) (svn ds i) = true) ∧ Below W0.heap.size W0 wr) (fun i _ => n3 - (intOf i).toNat)
  case atStart => exact ⟨0, Nat.zero_le _, rfl, Lib.hid (fun i hi => absurd hi (by omega)), Lib.hid (fun i j _ hi => absurd hi (by omega)), HB1.out⟩
  case round =>
    obtain ⟨k, hk, rfl, HA, HC, hb⟩ := hrel
    have HBW := Lib.hid (HB0.out.trans (hb.mono HB0.out.size))
    have HBR := Lib.hid hb
    have hzw : w.heap.size < wr.heap.size := Nat.lt_of_lt_of_le HZB.out hb.size
    by_cases hlt : k < n3
    case neg =>
      have HE : Hid (true = r) := Lib.hid (by
        rw [← HRR.out]
        exact (pb_true ⟨HV.out, by have := HLD.out; have := HL12.out; omega, fun i hi => HA.out i (by have := HLD.out; omega), fun i j hj hi => HC.out i j hj (by have := HLD.out; omega)⟩).symm)
      clear hb
      go_wp2
      go_ret
      exact ⟨retb HE.out, HBW.out⟩
    case pos =>
    have hkl : k < ys.length := by have := HT.out.len; omega
    have HKL := Lib.hid hkl
    have HKD : Hid (k < ds.length) := Lib.hid (by have := HLD.out; omega)
    obtain ⟨y, hke⟩ : ∃ y, ys[k]'hkl = y := ⟨_, rfl⟩
    have HDK := Lib.hid (svn_at HD.out hkl hke)
    have hyat : SvAt w y := by rw [← hke]; exact HT.out.at_ _ (List.getElem_mem hkl)
    have HYE := Lib.hid hke
    have HYA := Lib.hid hyat
    obtain ⟨T, f, x0, hx0, hTT, HST⟩ := above wr
    haveI : Nonempty T := ⟨x0⟩
    have hbx : ∀ x, Below w.heap.size w (f x) := fun x => HBW.out.trans ((hTT x).mono HBW.out.size)
    have hba : ∀ x, Below W0.heap.size W0 (f x) := fun x => HBR.out.trans ((hTT x).mono HBR.out.size)
    have s0 : ∀ x, (f x).cell? ⟨w.heap.size, 0, none⟩ = some (.slice (some ⟨g1, 0, none⟩) n1 c1) := fun x => ((hba x).cell (p := ⟨w.heap.size, 0, none⟩) HZB.out).trans HK0.out
    have s1 : ∀ x, (f x).cell? ⟨w.heap.size, 1, none⟩ = some (.slice (some ⟨g2, 0, none⟩) n2 c2) := fun x => ((hba x).cell (p := ⟨w.heap.size, 1, none⟩) HZB.out).trans HK1.out
    have s2 : ∀ x, w.heap.size < (f x).heap.size := fun x => Nat.lt_of_lt_of_le HZB.out (hba x).size
    have s3 : ∀ x, g3 < (f x).heap.size := fun x => ((HT.out.moved (hbx x)).row.lt g3 rfl).2
    have rk_ : ∀ x, (f x).cell? ⟨g3, k * 10, none⟩ = some (.int .i64 y.i) ∧ (f x).cell? ⟨g3, k * 10 + 1, none⟩ = some (.int .i64 y.k) ∧ (f x).cell? ⟨g3, k * 10 + 2, none⟩ = some (.int .i64 y.s1) ∧ (f x).cell? ⟨g3, k * 10 + 3, none⟩ = some (.slice y.A y.n y.c) ∧ (f x).cell? ⟨g3, k * 10 + 4, none⟩ = some (.int .i64 y.x1) ∧ (f x).cell? ⟨g3, k * 10 + 5, none⟩ = some (.int .i64 y.y1) ∧ (f x).cell? ⟨g3, k * 10 + 6, none⟩ = some (.int .i64 y.s2) ∧ (f x).cell? ⟨g3, k * 10 + 7, none⟩ = some (.slice y.A2 y.m y.c2) ∧ (f x).cell? ⟨g3, k * 10 + 8, none⟩ = some (.int .i64 y.x2) ∧ (f x).cell? ⟨g3, k * 10 + 9, none⟩ = some (.int .i64 y.y2) := fun x => by
      obtain ⟨_, f0, f1, f2, f3, f4, f5, f6, f7, f8, f9⟩ := (HT.out.moved (hbx x)).rd.svc hkl
      rw [Nat.zero_add, hke] at f0 f1 f2 f3 f4 f5 f6 f7 f8 f9
      exact ⟨f0, f1, f2, f3, f4, f5, f6, f7, f8, f9⟩
    have rk0 := fun x => (rk_ x).1
    have rk1 := fun x => (rk_ x).2.1
    have rk2 := fun x => (rk_ x).2.2.1
    have rk3 := fun x => (rk_ x).2.2.2.1
    have rk4 := fun x => (rk_ x).2.2.2.2.1
    have rk5 := fun x => (rk_ x).2.2.2.2.2.1
    have rk6 := fun x => (rk_ x).2.2.2.2.2.2.1
    have rk7 := fun x => (rk_ x).2.2.2.2.2.2.2.1
    have rk8 := fun x => (rk_ x).2.2.2.2.2.2.2.2.1
    have rk9 := fun x => (rk_ x).2.2.2.2.2.2.2.2.2
    clear rk_
    have CL : Hid (∀ x, Calls Tryd.prog 56 #[.agg #[.slice (some ⟨g1, 0, none⟩) n1 c1, .slice (some ⟨g2, 0, none⟩) n2 c2], .agg #[.int .i64 y.i, .int .i64 y.k, .int .i64 y.s1, .slice y.A y.n y.c, .int .i64 y.x1, .int .i64 y.y1, .int .i64 y.s2, .slice y.A2 y.m y.c2, .int .i64 y.x2, .int .i64 y.y2]] (f x) (RetP (.bool (pb (svP ss fs y.d))) (f x))) := Lib.hid fun x => l13Service_ (c := y.c) (c2 := y.c2) (HNT.out.moved (hbx x)) HV.out y.i y.k y.s1 y.x1 y.y1 y.s2 y.x2 y.y2 hyat.1.1 (hyat.1.2.2.moved (hbx x)) hyat.1.2.1 hyat.2.1 (hyat.2.2.2.moved (hbx x)) hyat.2.2.1
    have HT1 : Hid (∀ x, Below W0.heap.size W0 (f x)) := Lib.hid hba
    have HBX := Lib.hid hbx
    have HXX := Lib.hid hx0
    clear hba hTT hx0 hyat hke
    obtain ⟨b1, hb1⟩ : ∃ b, pb (svP ss fs y.d) = b := ⟨_, rfl⟩
    rw [hb1] at CL
    have HLB : Hid (b1 = true ↔ svP ss fs (svn ds k)) := Lib.hid (by
      rw [HDK.out]
      by_cases hp : svP ss fs y.d
      · rw [pb_true hp] at hb1; exact ⟨fun _ => hp, fun _ => hb1.symm⟩
      · rw [pb_false hp] at hb1; exact ⟨fun h => by rw [← hb1] at h; exact absurd h (by decide), fun h => absurd h hp⟩)
    clear hb1
    go_upto_region 6 with fail
    go_cut [45] (fun s45 wx => ∃ bb : Bool, s45 = .bool bb ∧ Hid (bb = true ↔ ¬ svStep ss fs ds k) ∧ Hid (Below W0.heap.size W0 wx))
    case first =>
      cases b1
      case false =>
        have HE : Hid (true = true ↔ ¬ svStep ss fs ds k) := Lib.hid ⟨fun _ h => absurd (HLB.out.2 h.1) (by decide), fun _ => rfl⟩
        clear hbx
        refine wp_region_class f (by kernel_rfl) (by kernel_rfl) x0 HXX.out ?_
        repeat (go_big_quiet_step ((go_at_call 56; with_reducible exact Calls.inClass HST (CL.out _))))
        refine wpQuiet_nil ?_
        rintro _ ⟨x, rfl⟩
        have HB2 := Lib.hid (HT1.out x)
        go_wp2_with fail
        go_meet
        exact ⟨true, rfl, Lib.hid ⟨fun _ => HE.out.1 trivial, fun _ => rfl⟩, HB2⟩
      case true =>
      by_cases hk0 : k = 0
      case pos =>
        have HE : Hid (false = true ↔ ¬ svStep ss fs ds k) := Lib.hid ⟨fun h => absurd h (by decide), fun h => absurd ⟨HLB.out.1 rfl, fun h0 => absurd h0 (by omega)⟩ h⟩
        subst hk0
        clear hbx
        simp only [Nat.zero_mul, Nat.zero_add] at rk0 rk1 rk2 rk3 rk4 rk5 rk6 rk7 rk8 rk9
        refine wp_region_class f (by kernel_rfl) (by kernel_rfl) x0 HXX.out ?_
        repeat (go_big_quiet_step ((go_at_call 56; with_reducible exact Calls.inClass HST (CL.out _))))
        refine wpQuiet_nil ?_
        rintro _ ⟨x, rfl⟩
        have HB2 := Lib.hid (HT1.out x)
        go_wp2_with fail
        go_meet
        exact ⟨false, rfl, HE, HB2⟩
      case neg =>
      obtain ⟨m, hkm⟩ : ∃ m, k = m + 1 := ⟨k - 1, by omega⟩
      have hwr := pred_wrap_ k m hkm (by have := HL12.out; omega)
      have hml : m < ys.length := by omega
      have hmn : (m : Int) < n3 := by omega
      obtain ⟨z, hme⟩ : ∃ z, ys[m]'hml = z := ⟨_, rfl⟩
      have HDM := Lib.hid (svn_at HD.out hml hme)
      have rm_ : ∀ x, (f x).cell? ⟨g3, m * 10, none⟩ = some (.int .i64 z.i) ∧ (f x).cell? ⟨g3, m * 10 + 1, none⟩ = some (.int .i64 z.k) ∧ (f x).cell? ⟨g3, m * 10 + 2, none⟩ = some (.int .i64 z.s1) ∧ (f x).cell? ⟨g3, m * 10 + 3, none⟩ = some (.slice z.A z.n z.c) ∧ (f x).cell? ⟨g3, m * 10 + 4, none⟩ = some (.int .i64 z.x1) ∧ (f x).cell? ⟨g3, m * 10 + 5, none⟩ = some (.int .i64 z.y1) ∧ (f x).cell? ⟨g3, m * 10 + 6, none⟩ = some (.int .i64 z.s2) ∧ (f x).cell? ⟨g3, m * 10 + 7, none⟩ = some (.slice z.A2 z.m z.c2) ∧ (f x).cell? ⟨g3, m * 10 + 8, none⟩ = some (.int .i64 z.x2) ∧ (f x).cell? ⟨g3, m * 10 + 9, none⟩ = some (.int .i64 z.y2) := fun x => by
        obtain ⟨_, f0, f1, f2, f3, f4, f5, f6, f7, f8, f9⟩ := (HT.out.moved (hbx x)).rd.svc hml
        rw [Nat.zero_add, hme] at f0 f1 f2 f3 f4 f5 f6 f7 f8 f9
        exact ⟨f0, f1, f2, f3, f4, f5, f6, f7, f8, f9⟩
      have rm0 := fun x => (rm_ x).1
      have rm1 := fun x => (rm_ x).2.1
      have rm2 := fun x => (rm_ x).2.2.1
      have rm3 := fun x => (rm_ x).2.2.2.1
      have rm4 := fun x => (rm_ x).2.2.2.2.1
      have rm5 := fun x => (rm_ x).2.2.2.2.2.1
      have rm6 := fun x => (rm_ x).2.2.2.2.2.2.1
      have rm7 := fun x => (rm_ x).2.2.2.2.2.2.2.1
      have rm8 := fun x => (rm_ x).2.2.2.2.2.2.2.2.1
      have rm9 := fun x => (rm_ x).2.2.2.2.2.2.2.2.2
      clear rm_
      clear rm1 rm2 rm3 rm4 rm5 rm6 rm7 rm8 rm9
      have hd0 : decide (0 < k) = true := decide_eq_true (by omega)
      have HS : Hid (svStep ss fs ds k ↔ z.i < y.i) := Lib.hid (by
        unfold svStep
        have e : k - 1 = m := by omega
        rw [e, HDM.out, HDK.out]
        constructor
        · intro h; exact h.2 (by omega)
        · intro h; exact ⟨by rw [← HDK.out]; exact HLB.out.1 rfl, fun _ => h⟩)
      by_cases hid : y.i ≤ z.i
      · have HE : Hid (true = true ↔ ¬ svStep ss fs ds k) := Lib.hid ⟨fun _ h => by have := HS.out.1 h; omega, fun _ => rfl⟩
        clear hbx hkm hme hk0
        refine wp_region_class f (by kernel_rfl) (by kernel_rfl) x0 HXX.out ?_
        repeat (go_big_quiet_step ((go_at_call 56; with_reducible exact Calls.inClass HST (CL.out _))))
        refine wpQuiet_nil ?_
        rintro _ ⟨x, rfl⟩
        have HB2 := Lib.hid (HT1.out x)
        clear hwr
        go_wp2_with fail
        go_meet
        exact ⟨true, rfl, Lib.hid ⟨fun _ => HE.out.1 trivial, fun _ => rfl⟩, HB2⟩
      · have HE : Hid (false = true ↔ ¬ svStep ss fs ds k) := Lib.hid ⟨fun h => absurd h (by decide), fun h => absurd (HS.out.2 (by omega)) h⟩
        have hid2 : z.i < y.i := by omega
        have hid3 : decide (y.i ≤ z.i) = false := decide_eq_false hid
        clear hbx hkm hme hk0 hid
        refine wp_region_class f (by kernel_rfl) (by kernel_rfl) x0 HXX.out ?_
        repeat (go_big_quiet_step ((go_at_call 56; with_reducible exact Calls.inClass HST (CL.out _))))
        refine wpQuiet_nil ?_
        rintro _ ⟨x, rfl⟩
        have HB2 := Lib.hid (HT1.out x)
        clear hwr
        go_wp2_with fail
        go_meet
        exact ⟨false, rfl, HE, HB2⟩
    case rest =>
    clear s0 s1 s2 s3 rk0 rk1 rk2 rk3 rk4 rk5 rk6 rk7 rk8 rk9 hbx
    revert hcut; generalize wc = w2; intro hcut
    obtain ⟨bb, h0_, HE, HB2⟩ := hcut
    subst h0_
    have HB2W := Lib.hid (HB0.out.trans (HB2.out.mono HB0.out.size))
    cases bb
    case true =>
      have HR2 : Hid (false = r) := Lib.hid (by rw [← HRR.out]; exact (svs_step HKD.out (HE.out.1 rfl)).symm)
      go_wp2
      go_ret
      exact ⟨retb HR2.out, HB2W.out⟩
    case false =>
    have HSK : Hid (svStep ss fs ds k) := Lib.hid (Classical.byContradiction fun h => absurd (HE.out.2 h) (by decide))
    have hbf := HB2.out
    clear hb
    go_wp2
    go_loopw [6] (fun i wr => ∃ j : Nat, j ≤ k ∧ i = .int .i64 j ∧ Hid (∀ t, t < j → coD fs (svn ds t) (svn ds k) = true) ∧ Below W0.heap.size W0 wr) (fun i _ => k - (intOf i).toNat)
    case atStart => exact ⟨0, Nat.zero_le _, rfl, Lib.hid (fun t ht => absurd ht (by omega)), hbf⟩
    case round =>
      obtain ⟨j, hj, rfl, HJ, hb⟩ := hrel
      have HBWJ := Lib.hid (HB0.out.trans (hb.mono HB0.out.size))
      have HBRJ := Lib.hid hb
      by_cases hjl : j < k
      case neg =>
        have HA2 : Hid (∀ i, i < k + 1 → svStep ss fs ds i) := Lib.hid (fun i hi => by
          by_cases h : i < k
          · exact HA.out i h
          · obtain rfl : i = k := by omega
            exact HSK.out)
        have HC2 : Hid (∀ i j, j < i → i < k + 1 → coD fs (svn ds j) (svn ds i) = true) := Lib.hid (fun i j' hji hi => by
          by_cases h : i < k
          · exact HC.out i j' hji h
          · obtain rfl : i = k := by omega
            exact HJ.out j' (by omega))
        clear hb hbf
        go_wp2
        go_roundw
        case rel => exact ⟨k + 1, by omega, by go_num, HA2, HC2, HBRJ.out⟩
        case measure => simp [intOf]; omega
      case pos =>
      have hjll : j < ys.length := by have := HKL.out; omega
      have hkl := HKL.out
      obtain ⟨z, hje⟩ : ∃ z, ys[j]'hjll = z := ⟨_, rfl⟩
      have HDJ := Lib.hid (svn_at HD.out hjll hje)
      have hzat : SvAt w z := by rw [← hje]; exact HT.out.at_ _ (List.getElem_mem hjll)
      have hke := HYE.out
      have HLK := (HSK.out.1); rw [HDK.out] at HLK
      have HLJ := (HA.out j hjl).1; rw [HDJ.out] at HLJ
      obtain ⟨T, f, x0, hx0, hTT, HST⟩ := above wr
      haveI : Nonempty T := ⟨x0⟩
      have hbx : ∀ x, Below w.heap.size w (f x) := fun x => HBWJ.out.trans ((hTT x).mono HBWJ.out.size)
      have hba : ∀ x, Below W0.heap.size W0 (f x) := fun x => HBRJ.out.trans ((hTT x).mono HBRJ.out.size)
      have s0 : ∀ x, (f x).cell? ⟨w.heap.size, 0, none⟩ = some (.slice (some ⟨g1, 0, none⟩) n1 c1) := fun x => ((hba x).cell (p := ⟨w.heap.size, 0, none⟩) HZB.out).trans HK0.out
      have s1 : ∀ x, (f x).cell? ⟨w.heap.size, 1, none⟩ = some (.slice (some ⟨g2, 0, none⟩) n2 c2) := fun x => ((hba x).cell (p := ⟨w.heap.size, 1, none⟩) HZB.out).trans HK1.out
      have s2 : ∀ x, w.heap.size < (f x).heap.size := fun x => Nat.lt_of_lt_of_le HZB.out (hba x).size
      have s3 : ∀ x, g3 < (f x).heap.size := fun x => ((HT.out.moved (hbx x)).row.lt g3 rfl).2
      have rk_ : ∀ x, (f x).cell? ⟨g3, k * 10, none⟩ = some (.int .i64 y.i) ∧ (f x).cell? ⟨g3, k * 10 + 1, none⟩ = some (.int .i64 y.k) ∧ (f x).cell? ⟨g3, k * 10 + 2, none⟩ = some (.int .i64 y.s1) ∧ (f x).cell? ⟨g3, k * 10 + 3, none⟩ = some (.slice y.A y.n y.c) ∧ (f x).cell? ⟨g3, k * 10 + 4, none⟩ = some (.int .i64 y.x1) ∧ (f x).cell? ⟨g3, k * 10 + 5, none⟩ = some (.int .i64 y.y1) ∧ (f x).cell? ⟨g3, k * 10 + 6, none⟩ = some (.int .i64 y.s2) ∧ (f x).cell? ⟨g3, k * 10 + 7, none⟩ = some (.slice y.A2 y.m y.c2) ∧ (f x).cell? ⟨g3, k * 10 + 8, none⟩ = some (.int .i64 y.x2) ∧ (f x).cell? ⟨g3, k * 10 + 9, none⟩ = some (.int .i64 y.y2) := fun x => by
        obtain ⟨_, f0, f1, f2, f3, f4, f5, f6, f7, f8, f9⟩ := (HT.out.moved (hbx x)).rd.svc hkl
        rw [Nat.zero_add, hke] at f0 f1 f2 f3 f4 f5 f6 f7 f8 f9
        exact ⟨f0, f1, f2, f3, f4, f5, f6, f7, f8, f9⟩
      have rk0 := fun x => (rk_ x).1
      have rk1 := fun x => (rk_ x).2.1
      have rk2 := fun x => (rk_ x).2.2.1
      have rk3 := fun x => (rk_ x).2.2.2.1
      have rk4 := fun x => (rk_ x).2.2.2.2.1
      have rk5 := fun x => (rk_ x).2.2.2.2.2.1
      have rk6 := fun x => (rk_ x).2.2.2.2.2.2.1
      have rk7 := fun x => (rk_ x).2.2.2.2.2.2.2.1
      have rk8 := fun x => (rk_ x).2.2.2.2.2.2.2.2.1
      have rk9 := fun x => (rk_ x).2.2.2.2.2.2.2.2.2
      clear rk_
      have rj_ : ∀ x, (f x).cell? ⟨g3, j * 10, none⟩ = some (.int .i64 z.i) ∧ (f x).cell? ⟨g3, j * 10 + 1, none⟩ = some (.int .i64 z.k) ∧ (f x).cell? ⟨g3, j * 10 + 2, none⟩ = some (.int .i64 z.s1) ∧ (f x).cell? ⟨g3, j * 10 + 3, none⟩ = some (.slice z.A z.n z.c) ∧ (f x).cell? ⟨g3, j * 10 + 4, none⟩ = some (.int .i64 z.x1) ∧ (f x).cell? ⟨g3, j * 10 + 5, none⟩ = some (.int .i64 z.y1) ∧ (f x).cell? ⟨g3, j * 10 + 6, none⟩ = some (.int .i64 z.s2) ∧ (f x).cell? ⟨g3, j * 10 + 7, none⟩ = some (.slice z.A2 z.m z.c2) ∧ (f x).cell? ⟨g3, j * 10 + 8, none⟩ = some (.int .i64 z.x2) ∧ (f x).cell? ⟨g3, j * 10 + 9, none⟩ = some (.int .i64 z.y2) := fun x => by
        obtain ⟨_, f0, f1, f2, f3, f4, f5, f6, f7, f8, f9⟩ := (HT.out.moved (hbx x)).rd.svc hjll
        rw [Nat.zero_add, hje] at f0 f1 f2 f3 f4 f5 f6 f7 f8 f9
        exact ⟨f0, f1, f2, f3, f4, f5, f6, f7, f8, f9⟩
      have rj0 := fun x => (rj_ x).1
      have rj1 := fun x => (rj_ x).2.1
      have rj2 := fun x => (rj_ x).2.2.1
      have rj3 := fun x => (rj_ x).2.2.2.1
      have rj4 := fun x => (rj_ x).2.2.2.2.1
      have rj5 := fun x => (rj_ x).2.2.2.2.2.1
      have rj6 := fun x => (rj_ x).2.2.2.2.2.2.1
      have rj7 := fun x => (rj_ x).2.2.2.2.2.2.2.1
      have rj8 := fun x => (rj_ x).2.2.2.2.2.2.2.2.1
      have rj9 := fun x => (rj_ x).2.2.2.2.2.2.2.2.2
      clear rj_
      have CC : Hid (∀ x, Calls Tryd.prog 57 #[.agg #[.slice (some ⟨g1, 0, none⟩) n1 c1, .slice (some ⟨g2, 0, none⟩) n2 c2], .agg #[.int .i64 z.i, .int .i64 z.k, .int .i64 z.s1, .slice z.A z.n z.c, .int .i64 z.x1, .int .i64 z.y1, .int .i64 z.s2, .slice z.A2 z.m z.c2, .int .i64 z.x2, .int .i64 z.y2], .agg #[.int .i64 y.i, .int .i64 y.k, .int .i64 y.s1, .slice y.A y.n y.c, .int .i64 y.x1, .int .i64 y.y1, .int .i64 y.s2, .slice y.A2 y.m y.c2, .int .i64 y.x2, .int .i64 y.y2]] (f x) (RetP (.bool (coD fs z.d y.d)) (f x))) := Lib.hid fun x => l13Compatible_ (c := z.c) (c8 := z.c2) (c3 := y.c) (c9 := y.c2) (HNT.out.moved (hbx x)) HV.out z.i z.k z.s1 z.s2 y.i y.k y.s1 y.s2 ⟨z.x1, z.y1⟩ ⟨z.x2, z.y2⟩ ⟨y.x1, y.y1⟩ ⟨y.x2, y.y2⟩ (fun _ => HLJ.2.1.2) (fun e => svP_c2 HLJ e) (fun _ => HLK.2.1.2) (fun e => svP_c2 HLK e) hzat.1.1 (hzat.1.2.2.moved (hbx x)) hzat.1.2.1 hzat.2.1 (hzat.2.2.2.moved (hbx x)) hzat.2.2.1 HYA.out.1.1 (HYA.out.1.2.2.moved (hbx x)) HYA.out.1.2.1 HYA.out.2.1 (HYA.out.2.2.2.moved (hbx x)) HYA.out.2.2.1 (svP_zs HLJ)
      have HT1 : Hid (∀ x, Below W0.heap.size W0 (f x)) := Lib.hid hba
      have HXX := Lib.hid hx0
      have hjn : (j : Int) < n3 := by omega
      obtain ⟨cb, hcb⟩ : ∃ cb, coD fs z.d y.d = cb := ⟨_, rfl⟩
      rw [hcb] at CC
      have HCB : Hid (coD fs (svn ds j) (svn ds k) = cb) := Lib.hid (by rw [HDJ.out, HDK.out, ← hcb])
      clear hba hbx hTT hx0 hzat hje hke HLK HLJ hcb hb hbf
      cases cb
      case false =>
        have HR2 : Hid (false = r) := Lib.hid (by rw [← HRR.out]; exact (svs_col HKD.out hjl HCB.out).symm)
        go_wp2
        refine wp_region_class f (by kernel_rfl) (by kernel_rfl) x0 HXX.out ?_
        repeat (go_big_quiet_step ((go_at_call 57; with_reducible exact Calls.inClass HST (CC.out _))))
        refine wpQuiet_nil ?_
        rintro _ ⟨x, rfl⟩
        have HB2 := Lib.hid (HT1.out x)
        clear s0 s1 s2 s3 rk0 rk1 rk2 rk3 rk4 rk5 rk6 rk7 rk8 rk9 rj0 rj1 rj2 rj3 rj4 rj5 rj6 rj7 rj8 rj9
        go_wp2
        go_ret
        exact ⟨retb HR2.out, HB0.out.trans (HB2.out.mono HB0.out.size)⟩
      case true =>
        have HJ2 : Hid (∀ t, t < j + 1 → coD fs (svn ds t) (svn ds k) = true) := Lib.hid (fun t ht => by
          by_cases h : t < j
          · exact HJ.out t h
          · obtain rfl : t = j := by omega
            exact HCB.out)
        go_wp2
        refine wp_region_class f (by kernel_rfl) (by kernel_rfl) x0 HXX.out ?_
        repeat (go_big_quiet_step ((go_at_call 57; with_reducible exact Calls.inClass HST (CC.out _))))
        refine wpQuiet_nil ?_
        rintro _ ⟨x, rfl⟩
        have HB2 := Lib.hid (HT1.out x)
        clear s0 s1 s2 s3 rk0 rk1 rk2 rk3 rk4 rk5 rk6 rk7 rk8 rk9 rj0 rj1 rj2 rj3 rj4 rj5 rj6 rj7 rj8 rj9
        go_wp2
        go_roundw
        case rel => exact ⟨j + 1, by omega, by go_num, HJ2, HB2.out⟩
        case measure => simp [intOf]; omega
end Go.Proofs.YtlgkjidginibdaaDoor
