/- Plans: contract of impl.IsValidPlan. No condition but those typed. -/
import Derived.Test.YtdaopbdjbpopiaaPlanI
namespace Go.Proofs.Ytdaopbdjbpopiaa
open Go.ChangeShapes Go.WideShapes Go.ChangeAt Go.RowKit Go.Maps

def lastI (ds : List LtD) : Nat → Int
  | 0 => 0
  | k + 1 => (dn ds k).p0
set_option maxRecDepth 100000 in
set_option maxHeartbeats 8000000 in
theorem implVP {g1 g2 g3 n1 n2 n3 c1 c2 B : Nat} {ss : List ByteArray} {fs : List Q4} {ys : List Lt} {ds : List LtD} {w : World} (h : NetAt g1 g2 n1 n2 c1 c2 ss fs w) (hT : Lts B g3 n3 ys w) (hd : ys.map Lt.d = ds) (hs : n3 ≤ 1048576) :
    Calls Try.prog 62 #[.agg #[.slice (some ⟨g1, 0, none⟩) n1 c1, .slice (some ⟨g2, 0, none⟩) n2 c2, .slice (some ⟨g3, 0, none⟩) n3 n3]] w (RetP (.bool (pb (planP ss fs ds))) w) := by
  have HNT := Lib.hid h; have HT := Lib.hid hT; have HD := Lib.hid hd
  have HLD : Hid (ds.length = n3) := Lib.hid (by rw [← hd, List.length_map]; exact hT.len)
  obtain ⟨r, hrr⟩ : ∃ r, pb (planP ss fs ds) = r := ⟨_, rfl⟩
  rw [hrr]
  have HRR := Lib.hid hrr
  clear h hT hd hrr
  go_enter Try.func62, Try.ntmps62
  go_wp2_with fail
  obtain ⟨W0, hW0⟩ : ∃ W0, w.alloc (Obj.cells #[.slice (some ⟨g1, 0, none⟩) n1 c1, .slice (some ⟨g2, 0, none⟩) n2 c2, .slice (some ⟨g3, 0, none⟩) n3 n3] 84) = W0 := ⟨_, rfl⟩
  have hb0 : Below w.heap.size w W0 := by rw [← hW0]; exact (Below.refl _ _).alloc (Nat.le_refl _) _
  have hk0 : W0.cell? ⟨w.heap.size, 0, none⟩ = some (.slice (some ⟨g1, 0, none⟩) n1 c1) := by rw [← hW0]; simp [go_sem]
  have hk1 : W0.cell? ⟨w.heap.size, 1, none⟩ = some (.slice (some ⟨g2, 0, none⟩) n2 c2) := by rw [← hW0]; simp [go_sem]
  have hk2 : W0.cell? ⟨w.heap.size, 2, none⟩ = some (.slice (some ⟨g3, 0, none⟩) n3 n3) := by rw [← hW0]; simp [go_sem]
  have hz0 : w.heap.size < W0.heap.size := by rw [← hW0]; simp
  have HB0 := Lib.hid hb0; have HK0 := Lib.hid hk0; have HK1 := Lib.hid hk1; have HK2 := Lib.hid hk2; have HZB := Lib.hid hz0
  rw [hW0]
  clear hW0 hb0 hk0 hk1 hk2 hz0
  refine (implNet_ (HNT.out.moved HB0.out)).mono ?_
  rintro e w1 ⟨rfl, hb1⟩
  have HB1 := Lib.hid hb1
  have HB01 := Lib.hid (HB0.out.trans (hb1.mono HB0.out.size))
  have k2 := (hb1.cell (p := ⟨w.heap.size, 2, none⟩) HZB.out).trans HK2.out
  clear hb1
  by_cases hv : netP ss fs
  case neg =>
    have HE : Hid (false = r) := Lib.hid (by rw [← HRR.out]; exact (plan_net hv).symm)
    rw [pb_false hv]
    clear hv
    go_wp2
    go_ret
    exact ⟨retb HE.out, HB01.out⟩
  case pos =>
  have HV := Lib.hid hv
  rw [pb_true hv]
  clear hv
  by_cases hl : n3 ≤ 12
  case neg =>
    have HE : Hid (false = r) := Lib.hid (by rw [← HRR.out]; exact (plan_len (by have := HLD.out; omega)).symm)
    have hl2 : 12 < (n3 : Int) := by omega
    clear hl
    go_wp2
    go_ret
    exact ⟨retb HE.out, HB01.out⟩
  case pos =>
  have HL12 := Lib.hid hl
  have hl2 : (n3 : Int) ≤ 12 := by omega
  clear hl
  go_wp2
  clear k2
  go_loopw [3, 21] (fun la i wr => ∃ (k : Nat) (z : Int), k ≤ n3 ∧ i = .int .i64 k ∧ la = .int .i64 z ∧ Hid (z = lastI ds k) ∧ Hid (∀ i, i < k → stepP ss fs ds i) ∧ Below W0.heap.size W0 wr) (fun _ i _ => n3 - (intOf i).toNat)
  case atStart => exact ⟨0, 0, Nat.zero_le _, rfl, rfl, Lib.hid rfl, Lib.hid (fun i hi => absurd hi (by omega)), HB1.out⟩
  case round =>
    obtain ⟨k, z, hk, rfl, rfl, HZ, HA, hb⟩ := hrel
    have HBW := Lib.hid (HB0.out.trans (hb.mono HB0.out.size))
    have HBR := Lib.hid hb
    have hzw : w.heap.size < wr.heap.size := Nat.lt_of_lt_of_le HZB.out hb.size
    by_cases hlt : k < n3
    case neg =>
      have hkn : k = n3 := by omega
      have k2 := (hb.cell (p := ⟨w.heap.size, 2, none⟩) HZB.out).trans HK2.out
      have CO := Lib.hid (occupied_ (HT.out.moved HBW.out) HD.out HL12.out (fun t ht => lightP_good (HA.out t (by have := HLD.out; omega)).1 HV.out))
      have HAL : Hid (∀ i, i < ds.length → stepP ss fs ds i) := Lib.hid (fun i hi => HA.out i (by have := HLD.out; omega))
      have HLL : Hid (ds.length ≤ 12) := Lib.hid (by have := HLD.out; have := HL12.out; omega)
      clear hkn hb
      go_wp2_with fail
      refine CO.out.mono ?_
      rintro e w3 ⟨hb3, h3⟩
      have HB3 := Lib.hid (HBW.out.trans (hb3.mono HBW.out.size))
      clear hb3 k2
      rcases h3 with ⟨hap, rfl⟩ | ⟨hap, B2, n2', D, rfl, _, _, _⟩
      · have HE : Hid (false = r) := Lib.hid (by rw [← HRR.out]; exact (pb_false (fun h => hap h.2.2.2)).symm)
        clear hap
        go_wp2
        go_ret
        exact ⟨retb HE.out, HB3.out⟩
      · have HE : Hid (true = r) := Lib.hid (by rw [← HRR.out]; exact (pb_true ⟨HV.out, HLL.out, HAL.out, hap⟩).symm)
        clear hap
        go_wp2
        go_ret
        exact ⟨retb HE.out, HB3.out⟩
    case pos =>
    have hkl : k < ys.length := by have := HT.out.len; omega
    have HKD : Hid (k < ds.length) := Lib.hid (by have := HLD.out; omega)
    obtain ⟨y, hke⟩ : ∃ y, ys[k]'hkl = y := ⟨_, rfl⟩
    have HDK := Lib.hid (dn_at HD.out hkl hke)
    have hyat : LtAt w y := by rw [← hke]; exact HT.out.at_ _ (List.getElem_mem hkl)
    have HYA := Lib.hid hyat
    obtain ⟨hg, f0, f1, f2, f3, f4⟩ := (HT.out.moved HBW.out).rd.ltc hkl
    rw [Nat.zero_add, hke] at f0 f1 f2 f3 f4
    have k0 := (hb.cell (p := ⟨w.heap.size, 0, none⟩) HZB.out).trans HK0.out
    have k1 := (hb.cell (p := ⟨w.heap.size, 1, none⟩) HZB.out).trans HK1.out
    have HBZ := Lib.hid ((Below.refl wr.heap.size wr).alloc (Nat.le_refl _) (Obj.cells #[.int .i64 y.p0, .int .i64 y.p1, .slice y.A y.n y.c, .int .i64 y.q0, .int .i64 y.q1] 171))
    have HBX := Lib.hid (HBW.out.trans (HBZ.out.mono HBW.out.size))
    have CL := Lib.hid (isLight_ (HNT.out.moved HBX.out) HV.out y (hyat.moved HBX.out))
    have HS : Hid (stepP ss fs ds k ↔ lightP ss fs y.d ∧ z < y.p0) := Lib.hid (by
      unfold stepP
      rw [HDK.out, HZ.out]
      cases k with
      | zero =>
        constructor
        · intro h; exact ⟨h.1, by have := h.1.1.1; show (0 : Int) < _; have e : y.d.p0 = y.p0 := rfl; omega⟩
        · intro h; exact ⟨h.1, fun h0 => absurd h0 (by omega)⟩
      | succ m =>
        constructor
        · intro h; exact ⟨h.1, h.2 (by omega)⟩
        · intro h; exact ⟨h.1, fun _ => h.2⟩)
    have hne := Nat.ne_of_lt hzw
    clear hb hke hyat hkl
    by_cases hid : y.p0 ≤ z
    · have HE : Hid (false = r) := Lib.hid (by rw [← HRR.out]; exact (plan_step HKD.out (fun h => by have := (HS.out.1 h).2; omega)).symm)
      clear CL
      go_wp2
      go_ret
      exact ⟨retb HE.out, HBX.out⟩
    have hid2 : z < y.p0 := by omega
    have hid3 : decide (y.p0 ≤ z) = false := decide_eq_false hid
    clear hid
    obtain ⟨b1, hb1⟩ : ∃ b, pb (lightP ss fs y.d) = b := ⟨_, rfl⟩
    rw [hb1] at CL
    have HLB : Hid (b1 = true ↔ lightP ss fs y.d) := Lib.hid (by
      by_cases hp : lightP ss fs y.d
      · rw [pb_true hp] at hb1; exact ⟨fun _ => hp, fun _ => hb1.symm⟩
      · rw [pb_false hp] at hb1; exact ⟨fun h => by rw [← hb1] at h; exact absurd h (by decide), fun h => absurd h hp⟩)
    clear hb1
    go_wp2_with fail
    obtain ⟨X, hX⟩ : ∃ X, wr.alloc (Obj.cells #[.int .i64 y.p0, .int .i64 y.p1, .slice y.A y.n y.c, .int .i64 y.q0, .int .i64 y.q1] 171) = X := ⟨_, rfl⟩
    have hx0 : X.cell? ⟨wr.heap.size, 0, none⟩ = some (.int .i64 y.p0) := by rw [← hX]; simp [go_sem]
    have hzx : wr.heap.size < X.heap.size := by rw [← hX]; simp
    rw [hX] at CL HBZ HBX ⊢
    clear hX f0 f1 f2 f3 f4 k0 k1
    refine CL.out.mono ?_
    rintro e w3 ⟨rfl, hb3⟩
    have HB3 := Lib.hid (HBX.out.trans (hb3.mono HBX.out.size))
    have HB3R := Lib.hid (HBR.out.trans ((HBZ.out.trans (hb3.mono HBZ.out.size)).mono HBR.out.size))
    have l0 := (hb3.cell (p := ⟨wr.heap.size, 0, none⟩) hzx).trans hx0
    clear hb3 hx0 hzx
    cases b1
    case false =>
      have HE : Hid (false = r) := Lib.hid (by rw [← HRR.out]; exact (plan_step HKD.out (fun h => absurd (HLB.out.2 (HS.out.1 h).1) (by decide))).symm)
      go_wp2
      go_ret
      exact ⟨retb HE.out, HB3.out⟩
    case true =>
    have HA2 : Hid (∀ i, i < k + 1 → stepP ss fs ds i) := Lib.hid (fun i hi => by
      by_cases h : i < k
      · exact HA.out i h
      · obtain rfl : i = k := by omega
        exact HS.out.2 ⟨HLB.out.1 rfl, hid2⟩)
    have HZ2 : Hid (y.p0 = lastI ds (k + 1)) := Lib.hid (by show _ = (dn ds k).p0; rw [HDK.out]; rfl)
    go_wp2
    go_roundw
    case rel => exact ⟨k + 1, y.p0, by omega, by go_num, rfl, HZ2, HA2, HB3R.out⟩
    case measure => simp [intOf]; omega
end Go.Proofs.Ytdaopbdjbpopiaa
