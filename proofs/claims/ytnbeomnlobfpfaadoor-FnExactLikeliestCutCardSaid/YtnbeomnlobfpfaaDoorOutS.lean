/- Outages: which are valid: contracts of the specification. No condition but those typed. -/
import Derived.Test.YtnbeomnlobfpfaaDoorOut
namespace Go.Proofs.YtnbeomnlobfpfaaDoor
open Go.ChangeShapes Go.WideShapes Go.ChangeAt Go.RowKit

set_option maxRecDepth 100000 in
set_option maxHeartbeats 8000000 in
theorem l16Good_ {g1 g2 n1 n2 c1 c2 : Nat} {ss : List ByteArray} {fs : List Q4} {w : World} (h : NetAt g1 g2 n1 n2 c1 c2 ss fs w) (u : Int) {A : Option Addr} {n c : Nat} {ds : List Int} (hn : ds.length = n) (hr : Rd w w.heap.size A (ds.map (Value.int .i64))) (hx : n ≤ 1048576) :
    Calls Tryd.prog 60 #[.agg #[.slice (some ⟨g1, 0, none⟩) n1 c1, .slice (some ⟨g2, 0, none⟩) n2 c2], .agg #[.int .i64 u, .slice A n c]] w (RetP (.bool (ouB ss fs u ds)) w) := by
  have HNT := Lib.hid h; have HN := Lib.hid hn; have HR := Lib.hid hr
  have HL2 := Lib.hid h.ln2
  clear h hn hr
  obtain ⟨R, hR⟩ : ∃ r, ouB ss fs u ds = r := ⟨_, rfl⟩
  have HNO : Hid (¬ ouP ss fs u ds → R = false) := Lib.hid (fun e => by rw [← hR]; exact pb_false e)
  have HYES : Hid (ouP ss fs u ds → R = true) := Lib.hid (fun e => by rw [← hR]; exact pb_true e)
  rw [hR]
  clear hR
  go_enter Tryd.func60, Tryd.ntmps60
  go_wp2_with fail
  obtain ⟨W0, hW0⟩ : ∃ W0, (w.alloc (Obj.cells #[.slice (some ⟨g1, 0, none⟩) n1 c1, .slice (some ⟨g2, 0, none⟩) n2 c2] 32)).alloc (Obj.cells #[.int .i64 u, .slice A n c] 59) = W0 := ⟨_, rfl⟩
  have hb0 : Below w.heap.size w W0 := by rw [← hW0]; exact ((Below.refl _ _).alloc (Nat.le_refl _) _).alloc (by simp) _
  have k0 : W0.cell? ⟨w.heap.size, 0, none⟩ = some (.slice (some ⟨g1, 0, none⟩) n1 c1) := by rw [← hW0]; simp [go_sem]
  have k1 : W0.cell? ⟨w.heap.size, 1, none⟩ = some (.slice (some ⟨g2, 0, none⟩) n2 c2) := by rw [← hW0]; simp [go_sem]
  have k2 : W0.cell? ⟨w.heap.size + 1, 0, none⟩ = some (.int .i64 u) := by rw [← hW0]; simp [go_sem]
  have k3 : W0.cell? ⟨w.heap.size + 1, 1, none⟩ = some (.slice A n c) := by rw [← hW0]; simp [go_sem]
  have hz0 : w.heap.size + 1 < W0.heap.size := by rw [← hW0]; simp
  have HB0 := Lib.hid hb0; have HK0 := Lib.hid k0; have HK1 := Lib.hid k1; have HK2 := Lib.hid k2; have HK3 := Lib.hid k3; have HZ0 := Lib.hid hz0
  rw [hW0]
  clear hW0 hb0 k0 k1 k2 k3 hz0
  obtain ⟨T, f, x0, hx0, hTT, HST⟩ := above W0
  haveI : Nonempty T := ⟨x0⟩
  have s0 : ∀ x, (f x).cell? ⟨w.heap.size, 0, none⟩ = some (.slice (some ⟨g1, 0, none⟩) n1 c1) := fun x => ((hTT x).cell (p := ⟨w.heap.size, 0, none⟩) (by show w.heap.size < _; have := HZ0.out; omega)).trans HK0.out
  have s1 : ∀ x, (f x).cell? ⟨w.heap.size, 1, none⟩ = some (.slice (some ⟨g2, 0, none⟩) n2 c2) := fun x => ((hTT x).cell (p := ⟨w.heap.size, 1, none⟩) (by show w.heap.size < _; have := HZ0.out; omega)).trans HK1.out
  have s2 : ∀ x, (f x).cell? ⟨w.heap.size + 1, 0, none⟩ = some (.int .i64 u) := fun x => ((hTT x).cell (p := ⟨w.heap.size + 1, 0, none⟩) (by show w.heap.size + 1 < _; have := HZ0.out; omega)).trans HK2.out
  have s3 : ∀ x, (f x).cell? ⟨w.heap.size + 1, 1, none⟩ = some (.slice A n c) := fun x => ((hTT x).cell (p := ⟨w.heap.size + 1, 1, none⟩) (by show w.heap.size + 1 < _; have := HZ0.out; omega)).trans HK3.out
  have HT1 : Hid (∀ x, Below W0.heap.size W0 (f x)) := Lib.hid hTT
  have HXX := Lib.hid hx0
  have CG : Hid (∀ x, Calls Tryd.prog 70 #[.agg #[.slice (some ⟨g1, 0, none⟩) n1 c1, .slice (some ⟨g2, 0, none⟩) n2 c2]] (f x) (BoolP (pb (netP ss fs)) (f x))) := Lib.hid fun x => specNet_ (HNT.out.moved (HB0.out.trans ((HT1.out x).mono HB0.out.size)))
  clear hTT hx0
  by_cases hv : netP ss fs
  case neg =>
    have HE := Lib.hid (HNO.out (fun hp => hv hp.1))
    rw [pb_false hv] at CG
    clear hv
    go_wp2_with fail
    refine wp_region_class f (by kernel_rfl) (by kernel_rfl) x0 HXX.out ?_
    repeat (go_big_quiet_step (first | (go_at_call 70; exact Calls.inClass HST (CG.out _))))
    refine wpQuiet_nil ?_
    rintro _ ⟨t, rfl⟩
    have HB3 := Lib.hid (HB0.out.trans ((HT1.out t).mono HB0.out.size))
    clear s0 s1 s2 s3
    go_wp2
    go_ret
    exact ⟨retb HE.out.symm, HB3.out⟩
  case pos =>
  rw [pb_true hv] at CG
  have HV := Lib.hid hv
  by_cases hu : 2 ≤ u ∧ u ≤ 20
  case neg =>
    have HE := Lib.hid (HNO.out (fun hp => hu hp.2.1))
    have CI : Hid (∀ x, Calls Tryd.prog 71 #[.int .i64 u, .int .i64 2, .int .i64 20] (f x) (RetP (.bool false) (f x))) := Lib.hid fun x => (in_noR u 2 20 (f x) (by omega)).mono fun _ _ h => ⟨h.1, by rw [← h.2]; exact Below.refl _ _⟩
    clear hv hu
    go_wp2_with fail
    refine wp_region_class f (by kernel_rfl) (by kernel_rfl) x0 HXX.out ?_
    repeat (go_big_quiet_step (first | (go_at_call 70; exact Calls.inClass HST (CG.out _)) | (go_at_call 71; exact Calls.inClass HST (CI.out _))))
    refine wpQuiet_nil ?_
    rintro _ ⟨t, rfl⟩
    have HB3 := Lib.hid (HB0.out.trans ((HT1.out t).mono HB0.out.size))
    clear s0 s1 s2 s3
    go_wp2
    go_ret
    exact ⟨retb HE.out.symm, HB3.out⟩
  case pos =>
  obtain ⟨hu1, hu2⟩ := hu
  have hgl : (rgL fs).length ≤ 14 := by have := rgp_len fs; have := hv.2.1; omega
  clear s0 s1 s2 s3 CG HXX HT1 HST hv
  have CG : Hid (∀ W, Bel W0 W → Calls Tryd.prog 70 #[.agg #[.slice (some ⟨g1, 0, none⟩) n1 c1, .slice (some ⟨g2, 0, none⟩) n2 c2]] W (BoolP true W)) := Lib.hid fun W hb => by
    have h9 := specNet_ (HNT.out.moved (HB0.out.trans ((Bel.out hb).mono HB0.out.size)))
    rw [pb_true HV.out] at h9
    exact h9
  have CI : Hid (∀ W, Calls Tryd.prog 71 #[.int .i64 u, .int .i64 2, .int .i64 20] W fun e w' => e = .returned (.bool true) ∧ W = w') := Lib.hid fun W => in_yesR u 2 20 W hu1 hu2
  have CL : Hid (∀ W, Bel W0 W → Calls Tryd.prog 33 #[.agg #[.slice (some ⟨g1, 0, none⟩) n1 c1, .slice (some ⟨g2, 0, none⟩) n2 c2]] W (RowsO (rgL fs) W)) := Lib.hid fun W hb => l2Groups_ (HNT.out.moved (HB0.out.trans ((Bel.out hb).mono HB0.out.size))) HV.out
  obtain ⟨gs, hgs⟩ : ∃ gs, rgL fs = gs := ⟨_, rfl⟩
  have HGS := Lib.hid hgs
  rw [hgs] at CL hgl
  clear hgs
  have k0 := HK0.out; have k1 := HK1.out; have k2 := HK2.out; have k3 := HK3.out
  have hz0 := HZ0.out
  have hg0 : w.heap.size < W0.heap.size := by omega
  have hbd : Bel W0 W0.drew := Bel.of (Below.refl _ _).drew
  go_upto_region 1 with fail
  go_cut [23] (fun sb wx => sb = .bool ((n : Int) != (gs.length : Int)) ∧ Bel W0 wx)
  case first =>
    go_region_held3 (fun U => U.cell? ⟨w.heap.size, 0, none⟩ = some (.slice (some ⟨g1, 0, none⟩) n1 c1) ∧ U.cell? ⟨w.heap.size, 1, none⟩ = some (.slice (some ⟨g2, 0, none⟩) n2 c2) ∧ U.cell? ⟨w.heap.size + 1, 0, none⟩ = some (.int .i64 u) ∧ U.cell? ⟨w.heap.size + 1, 1, none⟩ = some (.slice A n c) ∧ Bel W0 U)
      (first | (go_keep; done) | (go_split_ands; (refine ⟨?_, ?_, ?_, ?_, ?_⟩ <;> first | assumption | exact Bel.step (by assumption) hbA | exact Bel.step (by assumption) hbB | exact (Bel.at_ (by assumption) hbA (by assumption)).trans (by assumption) | exact (Bel.at_ (by assumption) hbB (by assumption)).trans (by assumption))))
      (first
        | (go_at_call 70; go_split_ands; refine (CG.out _ (by assumption)).mono ?_; rintro e u1 ⟨rfl, hbA⟩)
        | (go_at_call 71; go_split_ands; refine (CI.out _).mono ?_; rintro e u2 ⟨rfl, rfl⟩)
        | (go_at_call 33; go_split_ands; refine (CL.out _ (by assumption)).mono ?_; rintro e u3 ⟨A9, N9, d9, ys9, rfl, hD9, hR9, hbB⟩
           have hN9 : N9 = gs.length := by (have h1 := hR9.len; have h2 := congrArg List.length hD9.out; rw [List.length_map] at h2; omega)
           subst hN9))
    all_goals
      go_split_ands
      go_wp2_with fail
      go_meet
      exact ⟨by simp, by assumption⟩
  case rest =>
  clear hbd k0 k1 k2 k3 hz0 hg0
  revert hcut; generalize wc = w1; intro hcut
  obtain ⟨h0_, hb1⟩ := hcut
  subst h0_
  have hb1' := Bel.out hb1
  have HB1 := Lib.hid (HB0.out.trans (hb1'.mono HB0.out.size))
  have k0 := (hb1'.cell (p := ⟨w.heap.size, 0, none⟩) (by show w.heap.size < _; have := HZ0.out; omega)).trans HK0.out
  have k1 := (hb1'.cell (p := ⟨w.heap.size, 1, none⟩) (by show w.heap.size < _; have := HZ0.out; omega)).trans HK1.out
  have k2 := (hb1'.cell (p := ⟨w.heap.size + 1, 0, none⟩) (by show w.heap.size + 1 < _; have := HZ0.out; omega)).trans HK2.out
  have k3 := (hb1'.cell (p := ⟨w.heap.size + 1, 1, none⟩) (by show w.heap.size + 1 < _; have := HZ0.out; omega)).trans HK3.out
  have hg1 : w.heap.size + 1 < w1.heap.size := by have := HZ0.out; have := hb1'.size; omega
  have HR1 := Lib.hid (HR.out.moved HB1.out)
  clear hb1 hb1'
  by_cases hne : n = gs.length
  case neg =>
    have HE := Lib.hid (HNO.out (fun hp => hne (by have h1 := hp.2.2.1; rw [HGS.out] at h1; have := HN.out; omega)))
    have p2 : ((n : Int) != (gs.length : Int)) = true := by simp; omega
    rw [p2]
    clear hne
    go_wp2
    go_ret
    exact ⟨retb HE.out.symm, HB1.out⟩
  case pos =>
  have HNE : Hid (n = (rgL fs).length) := Lib.hid (by rw [HGS.out]; exact hne)
  have p2 : ((n : Int) != (gs.length : Int)) = false := by simp; omega
  rw [p2]
  clear hne p2
  have HK2c := Lib.hid k2; have HK3c := Lib.hid k3
  go_wp2
  clear k0 k1 k2 k3
  have HK2b : Hid (∀ W, Below w1.heap.size w1 W → W.cell? ⟨w.heap.size + 1, 0, none⟩ = some (.int .i64 u) ∧ W.cell? ⟨w.heap.size + 1, 1, none⟩ = some (.slice A n c) ∧ w.heap.size + 1 < W.heap.size) := Lib.hid (fun W hW => ⟨(hW.cell (p := ⟨w.heap.size + 1, 0, none⟩) hg1).trans HK2c.out, (hW.cell (p := ⟨w.heap.size + 1, 1, none⟩) hg1).trans HK3c.out, Nat.lt_of_lt_of_le hg1 hW.size⟩)
  go_loopw [5] (fun i wr => ∃ k : Nat, k ≤ n ∧ i = .int .i64 k ∧ Hid (∀ j, j < k → 0 ≤ nth ds j ∧ nth ds j ≤ u) ∧ Below w1.heap.size w1 wr) (fun i _ => n - (intOf i).toNat)
  case atStart => exact ⟨0, Nat.zero_le _, rfl, Lib.hid (fun j hj => by omega), Below.refl _ _⟩
  case round =>
    obtain ⟨k, hk, rfl, HA, hb⟩ := hrel
    have HBR := Lib.hid hb
    obtain ⟨k2, k3, hg1⟩ := HK2b.out _ hb
    clear hb
    by_cases hlt : k < n
    case neg =>
      have HE : Hid (R = true) := Lib.hid (HYES.out ⟨HV.out, ⟨hu1, hu2⟩, by rw [HN.out]; exact HNE.out, fun j hj => HA.out j (by have := HN.out; omega)⟩)
      go_wp2
      go_ret
      exact ⟨retb HE.out.symm, HB1.out.trans (HBR.out.mono HB1.out.size)⟩
    case pos =>
    have hks : k < ds.length := by have := HN.out; omega
    obtain ⟨ad, hA, hbl, hc⟩ := ints_at (HR1.out.moved HBR.out) hks
    subst hA
    rw [nth_eq hks] at hc
    have hkn : (k : Int) < n := by omega
    obtain ⟨d, hd⟩ : ∃ d, nth ds k = d := ⟨_, rfl⟩
    rw [hd] at hc
    have HD := Lib.hid hd
    clear hd
    by_cases hd0 : 0 ≤ d ∧ d ≤ u
    case neg =>
      have HE := Lib.hid (HNO.out (fun hp => hd0 (by have := hp.2.2.2 k (by have := HN.out; omega); rw [HD.out] at this; exact this)))
      have CI2 : Hid (∀ W, Calls Tryd.prog 71 #[.int .i64 d, .int .i64 0, .int .i64 u] W fun e w' => e = .returned (.bool false) ∧ w' = W) := Lib.hid fun W => (in_noR d 0 u W (by omega)).mono fun _ _ h => ⟨h.1, h.2.symm⟩
      clear hd0
      go_wp2_with fail
      go_quiet ((go_at_call 71; with_reducible exact Calls.quiet_of_same (CI2.out _)))
      go_wp2
      go_ret
      exact ⟨retb HE.out.symm, HB1.out.trans ((drewN_below_ HBR.out _).mono HB1.out.size)⟩
    case pos =>
      have HA2 : Hid (∀ j, j < k + 1 → 0 ≤ nth ds j ∧ nth ds j ≤ u) := Lib.hid (fun j hj => by
        by_cases e : j = k
        · subst e; rw [HD.out]; exact hd0
        · exact HA.out j (by omega))
      have CI2 : Hid (∀ W, Calls Tryd.prog 71 #[.int .i64 d, .int .i64 0, .int .i64 u] W fun e w' => e = .returned (.bool true) ∧ w' = W) := Lib.hid fun W => (in_yesR d 0 u W hd0.1 hd0.2).mono fun _ _ h => ⟨h.1, h.2.symm⟩
      clear hd0
      go_wp2_with fail
      go_quiet ((go_at_call 71; with_reducible exact Calls.quiet_of_same (CI2.out _)))
      go_wp2
      go_roundw
      case rel => exact ⟨k + 1, by omega, by go_num, HA2, drewN_below_ HBR.out _⟩
      case measure => simp [intOf]; omega
end Go.Proofs.YtnbeomnlobfpfaaDoor
