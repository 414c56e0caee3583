/- Whether a service clashes with one of a list, whether a list of services is valid: contracts of the implementation. No condition but those typed. -/
import Derived.Test.YtlgkjidginibdaaDoorScG
import Derived.Test.YtlgkjidginibdaaDoorScJ
import Derived.Test.YtlgkjidginibdaaDoorScK
import Derived.BigRegion
import Derived.BigQuiet
import Derived.Deep.RegionHeld3
namespace Go.Proofs.YtlgkjidginibdaaDoor
open Go.ChangeShapes Go.WideShapes Go.ChangeAt Go.RowKit

set_option maxRecDepth 100000 in
set_option maxHeartbeats 4000000 in
theorem against_ {g1 g2 g3 n1 n2 n3 c1 c2 B k : Nat} {ss : List ByteArray} {fs : List Q4} {ys : List Sv} {ds : List SvD} {w : World} (h : NetAt g1 g2 n1 n2 c1 c2 ss fs w) (hv : netP ss fs) (hT : Svs B g3 n3 ys w) (hd : ys.map Sv.d = ds) (hs : n3 ≤ 1048576) (hk : k ≤ n3) (hval : ∀ j, j < k → svP ss fs (svn ds j)) (x : Sv) (hx : SvAt w x) (hpx : svP ss fs x.d) :
    Calls Tryd.prog 64 #[.agg #[.slice (some ⟨g1, 0, none⟩) n1 c1, .slice (some ⟨g2, 0, none⟩) n2 c2], .slice (some ⟨g3, 0, none⟩) k n3, .agg #[.int .i64 x.i, .int .i64 x.k, .int .i64 x.s1, .slice x.A x.n x.c, .int .i64 x.x1, .int .i64 x.y1, .int .i64 x.s2, .slice x.A2 x.m x.c2, .int .i64 x.x2, .int .i64 x.y2]] w fun e w' => ∃ v, e = .returned v ∧ Hid (((∀ j, j < k → coD fs x.d (svn ds j) = true) ∧ v = .nilIface) ∨ ((∃ j, j < k ∧ coD fs x.d (svn ds j) = false) ∧ ∃ p, v = .iface 145 (.pointer p))) ∧ Below w.heap.size w w' := by
  have HNT := Lib.hid h; have HV := Lib.hid hv; have HT := Lib.hid hT; have HD := Lib.hid hd; have HVA := Lib.hid hval; have HXA := Lib.hid hx; have HPX := Lib.hid hpx
  clear h hv hT hd hval hx hpx
  obtain ⟨W0, hW0⟩ : ∃ W0, (w.alloc (Obj.cells #[.slice (some ⟨g1, 0, none⟩) n1 c1, .slice (some ⟨g2, 0, none⟩) n2 c2] 34)).alloc (Obj.cells #[.int .i64 x.i, .int .i64 x.k, .int .i64 x.s1, .slice x.A x.n x.c, .int .i64 x.x1, .int .i64 x.y1, .int .i64 x.s2, .slice x.A2 x.m x.c2, .int .i64 x.x2, .int .i64 x.y2] 67) = W0 := ⟨_, rfl⟩
  have hb0 : Below w.heap.size w W0 := by rw [← hW0]; exact ((Below.refl _ _).alloc (Nat.le_refl _) _).alloc (by simp) _
  have k0_0 : W0.cell? ⟨w.heap.size, 0, none⟩ = some (.slice (some ⟨g1, 0, none⟩) n1 c1) := by rw [← hW0]; simp [go_sem]
  have k0_1 : W0.cell? ⟨w.heap.size, 1, none⟩ = some (.slice (some ⟨g2, 0, none⟩) n2 c2) := by rw [← hW0]; simp [go_sem]
  have k1_0 : W0.cell? ⟨w.heap.size + 1, 0, none⟩ = some (.int .i64 x.i) := by rw [← hW0]; simp [go_sem]
  have k1_1 : W0.cell? ⟨w.heap.size + 1, 1, none⟩ = some (.int .i64 x.k) := by rw [← hW0]; simp [go_sem]
  have k1_2 : W0.cell? ⟨w.heap.size + 1, 2, none⟩ = some (.int .i64 x.s1) := by rw [← hW0]; simp [go_sem]
  have k1_3 : W0.cell? ⟨w.heap.size + 1, 3, none⟩ = some (.slice x.A x.n x.c) := by rw [← hW0]; simp [go_sem]
  have k1_4 : W0.cell? ⟨w.heap.size + 1, 4, none⟩ = some (.int .i64 x.x1) := by rw [← hW0]; simp [go_sem]
  have k1_5 : W0.cell? ⟨w.heap.size + 1, 5, none⟩ = some (.int .i64 x.y1) := by rw [← hW0]; simp [go_sem]
  have k1_6 : W0.cell? ⟨w.heap.size + 1, 6, none⟩ = some (.int .i64 x.s2) := by rw [← hW0]; simp [go_sem]
  have k1_7 : W0.cell? ⟨w.heap.size + 1, 7, none⟩ = some (.slice x.A2 x.m x.c2) := by rw [← hW0]; simp [go_sem]
  have k1_8 : W0.cell? ⟨w.heap.size + 1, 8, none⟩ = some (.int .i64 x.x2) := by rw [← hW0]; simp [go_sem]
  have k1_9 : W0.cell? ⟨w.heap.size + 1, 9, none⟩ = some (.int .i64 x.y2) := by rw [← hW0]; simp [go_sem]
  have hz : w.heap.size + 1 < W0.heap.size := by rw [← hW0]; simp
  have HK : Hid (∀ U, Below W0.heap.size W0 U → U.cell? ⟨w.heap.size, 0, none⟩ = some (.slice (some ⟨g1, 0, none⟩) n1 c1) ∧ U.cell? ⟨w.heap.size, 1, none⟩ = some (.slice (some ⟨g2, 0, none⟩) n2 c2) ∧ w.heap.size < U.heap.size ∧ U.cell? ⟨w.heap.size + 1, 0, none⟩ = some (.int .i64 x.i) ∧ U.cell? ⟨w.heap.size + 1, 1, none⟩ = some (.int .i64 x.k) ∧ U.cell? ⟨w.heap.size + 1, 2, none⟩ = some (.int .i64 x.s1) ∧ U.cell? ⟨w.heap.size + 1, 3, none⟩ = some (.slice x.A x.n x.c) ∧ U.cell? ⟨w.heap.size + 1, 4, none⟩ = some (.int .i64 x.x1) ∧ U.cell? ⟨w.heap.size + 1, 5, none⟩ = some (.int .i64 x.y1) ∧ U.cell? ⟨w.heap.size + 1, 6, none⟩ = some (.int .i64 x.s2) ∧ U.cell? ⟨w.heap.size + 1, 7, none⟩ = some (.slice x.A2 x.m x.c2) ∧ U.cell? ⟨w.heap.size + 1, 8, none⟩ = some (.int .i64 x.x2) ∧ U.cell? ⟨w.heap.size + 1, 9, none⟩ = some (.int .i64 x.y2) ∧ w.heap.size + 1 < U.heap.size) := Lib.hid fun U hU => ⟨(hU.cell (p := ⟨w.heap.size, 0, none⟩) (by show w.heap.size < _; omega)).trans k0_0, (hU.cell (p := ⟨w.heap.size, 1, none⟩) (by show w.heap.size < _; omega)).trans k0_1, by have := hU.size; omega, (hU.cell (p := ⟨w.heap.size + 1, 0, none⟩) (by show w.heap.size + 1 < _; omega)).trans k1_0, (hU.cell (p := ⟨w.heap.size + 1, 1, none⟩) (by show w.heap.size + 1 < _; omega)).trans k1_1, (hU.cell (p := ⟨w.heap.size + 1, 2, none⟩) (by show w.heap.size + 1 < _; omega)).trans k1_2, (hU.cell (p := ⟨w.heap.size + 1, 3, none⟩) (by show w.heap.size + 1 < _; omega)).trans k1_3, (hU.cell (p := ⟨w.heap.size + 1, 4, none⟩) (by show w.heap.size + 1 < _; omega)).trans k1_4, (hU.cell (p := ⟨w.heap.size + 1, 5, none⟩) (by show w.heap.size + 1 < _; omega)).trans k1_5, (hU.cell (p := ⟨w.heap.size + 1, 6, none⟩) (by show w.heap.size + 1 < _; omega)).trans k1_6, (hU.cell (p := ⟨w.heap.size + 1, 7, none⟩) (by show w.heap.size + 1 < _; omega)).trans k1_7, (hU.cell (p := ⟨w.heap.size + 1, 8, none⟩) (by show w.heap.size + 1 < _; omega)).trans k1_8, (hU.cell (p := ⟨w.heap.size + 1, 9, none⟩) (by show w.heap.size + 1 < _; omega)).trans k1_9, by have := hU.size; omega⟩
  have HMV : Hid (∀ U, Below W0.heap.size W0 U → Below w.heap.size w U) := Lib.hid fun U hU => hb0.trans (hU.mono hb0.size)
  clear k0_0 k0_1 k1_0 k1_1 k1_2 k1_3 k1_4 k1_5 k1_6 k1_7 k1_8 k1_9 hz hb0
  go_enter Tryd.func64, Tryd.ntmps64
  obtain ⟨q0, q1, q2, q3, q4, q5, q6, q7, q8, q9, q10, q11, q12, q13⟩ := HK.out W0 (Below.refl _ _)
  go_wp2
  try rw [hW0]
  clear hW0 q0 q1 q2 q3 q4 q5 q6 q7 q8 q9 q10 q11 q12 q13
  go_loopw [12] (fun q wr => ∃ t : Nat, t ≤ k ∧ q = .int .i64 t ∧ Hid (∀ j, j < t → coD fs x.d (svn ds j) = true) ∧ Below W0.heap.size W0 wr) (fun q _ => k - (intOf q).toNat)
  case atStart => exact ⟨0, Nat.zero_le _, rfl, Lib.hid (fun j hj => absurd hj (by omega)), by first | exact Below.refl _ _ | (rw [hW0]; exact Below.refl _ _)⟩
  case round =>
    obtain ⟨t, ht, rfl, HA, hb⟩ := hrel
    have HBR := Lib.hid hb
    clear hb
    by_cases hlt : t < k
    case neg =>
      obtain rfl : k = t := by omega
      go_wp2
      go_ret
      exact ⟨_, rfl, Lib.hid (.inl ⟨HA.out, rfl⟩), HMV.out _ HBR.out⟩
    case pos =>
    have hkl : t < ys.length := by have := HT.out.len; omega
    obtain ⟨y, hke⟩ : ∃ y, ys[t]'hkl = y := ⟨_, rfl⟩
    have HDK := Lib.hid (svn_at HD.out hkl hke)
    have hyat : SvAt w y := by rw [← hke]; exact HT.out.at_ _ (List.getElem_mem hkl)
    have HPY := Lib.hid (HVA.out t hlt); rw [HDK.out] at HPY
    have HYA := Lib.hid hyat
    have HBW := Lib.hid (HMV.out _ HBR.out)
    obtain ⟨hg3, r0, r1, r2, r3, r4, r5, r6, r7, r8, r9⟩ := (HT.out.moved HBW.out).rd.svc hkl
    rw [Nat.zero_add, hke] at r0 r1 r2 r3 r4 r5 r6 r7 r8 r9
    obtain ⟨q0, q1, q2, q3, q4, q5, q6, q7, q8, q9, q10, q11, q12, q13⟩ := HK.out wr HBR.out
    clear hyat hke hkl
    have htn : t < n3 := by omega
    go_wp2_with fail
    obtain ⟨X1, hX1⟩ : ∃ X, wr.alloc (Obj.cells #[.int .i64 y.i, .int .i64 y.k, .int .i64 y.s1, .slice y.A y.n y.c, .int .i64 y.x1, .int .i64 y.y1, .int .i64 y.s2, .slice y.A2 y.m y.c2, .int .i64 y.x2, .int .i64 y.y2] 67) = X := ⟨_, rfl⟩
    have HX1 : Hid (Below W0.heap.size W0 X1) := Lib.hid (by rw [← hX1]; exact HBR.out.alloc HBR.out.size _)
    try rw [hX1]
    clear hX1 r0 r1 r2 r3 r4 r5 r6 r7 r8 r9 q0 q1 q2 q3 q4 q5 q6 q7 q8 q9 q10 q11 q12 q13 hg3
    have CC := Lib.hid (chk_ (HNT.out.moved (HMV.out _ HX1.out)) HV.out x y (HXA.out.moved (HMV.out _ HX1.out)) (HYA.out.moved (HMV.out _ HX1.out)) HPX.out HPY.out)
    refine CC.out.mono ?_
    rintro e w2 ⟨v, rfl, HVV, hb2⟩
    have HU2 : Hid (Below W0.heap.size W0 w2) := Lib.hid (belT HX1.out hb2)
    clear hb2 CC
    rcases HVV.out with ⟨hc, rfl⟩ | ⟨hc, p, rfl⟩
    · have HA2 : Hid (∀ j, j < t + 1 → coD fs x.d (svn ds j) = true) := Lib.hid (fun j hj => by
        by_cases h : j < t
        · exact HA.out j h
        · obtain rfl : j = t := by omega
          rw [HDK.out]; exact hc)
      clear hc HVV
      go_wp2
      go_roundw
      case rel => exact ⟨t + 1, by omega, by go_num, HA2, HU2.out⟩
      case measure => simp [intOf]; omega
    · have HE : Hid (∃ j, j < k ∧ coD fs x.d (svn ds j) = false) := Lib.hid ⟨t, hlt, by rw [HDK.out]; exact hc⟩
      clear hc HVV
      go_wp2
      go_ret
      exact ⟨_, rfl, Lib.hid (.inr ⟨HE.out, _, rfl⟩), HMV.out _ HU2.out⟩
def svLast (ds : List SvD) : Nat → Int
  | 0 => 0
  | m + 1 => (svn ds m).i
theorem svStep_iff {ss : List ByteArray} {fs : List Q4} {ds : List SvD} {k : Nat} {d : SvD} (hd : svn ds k = d) : svStep ss fs ds k ↔ svP ss fs d ∧ svLast ds k < d.i := by
  unfold svStep
  rw [hd]
  cases k with
  | zero => exact ⟨fun h => ⟨h.1, by have := h.1.1.1.1; show (0 : Int) < _; omega⟩, fun h => ⟨h.1, fun h0 => absurd h0 (by omega)⟩⟩
  | succ m => exact ⟨fun h => ⟨h.1, h.2 (by omega)⟩, fun h => ⟨h.1, fun _ => h.2⟩⟩
set_option maxRecDepth 100000 in
set_option maxHeartbeats 8000000 in
theorem implIVS {g1 g2 g3 n1 n2 n3 c1 c2 B : Nat} {ss : List ByteArray} {fs : List Q4} {ys : List Sv} {ds : List SvD} {w : World} (h : NetAt g1 g2 n1 n2 c1 c2 ss fs w) (hT : Svs B g3 n3 ys w) (hd : ys.map Sv.d = ds) (hs : n3 ≤ 1048576) :
    Calls Tryd.prog 32 #[.agg #[.slice (some ⟨g1, 0, none⟩) n1 c1, .slice (some ⟨g2, 0, none⟩) n2 c2], .slice (some ⟨g3, 0, none⟩) n3 n3] w (RetP (.bool (pb (svsP ss fs ds))) w) := by
  have HNT := Lib.hid h; have HT := Lib.hid hT; have HD := Lib.hid hd
  have HLD : Hid (ds.length = n3) := Lib.hid (by rw [← hd, List.length_map]; exact hT.len)
  obtain ⟨r, hrr⟩ : ∃ r, pb (svsP ss fs ds) = r := ⟨_, rfl⟩
  rw [hrr]
  have HRR := Lib.hid hrr
  clear h hT hd hrr
  go_enter Tryd.func32, Tryd.ntmps32
  go_wp2_with fail
  obtain ⟨W0, hW0⟩ : ∃ W0, w.alloc (Obj.cells #[.slice (some ⟨g1, 0, none⟩) n1 c1, .slice (some ⟨g2, 0, none⟩) n2 c2] 34) = W0 := ⟨_, rfl⟩
  have hb0 : Below w.heap.size w W0 := by rw [← hW0]; exact (Below.refl _ _).alloc (Nat.le_refl _) _
  have hk0 : W0.cell? ⟨w.heap.size, 0, none⟩ = some (.slice (some ⟨g1, 0, none⟩) n1 c1) := by rw [← hW0]; simp [go_sem]
  have hk1 : W0.cell? ⟨w.heap.size, 1, none⟩ = some (.slice (some ⟨g2, 0, none⟩) n2 c2) := by rw [← hW0]; simp [go_sem]
  have hz0 : w.heap.size < W0.heap.size := by rw [← hW0]; simp
  have HB0 := Lib.hid hb0; have HK0 := Lib.hid hk0; have HK1 := Lib.hid hk1; have HZB := Lib.hid hz0
  rw [hW0]
  clear hW0 hb0 hk0 hk1 hz0
  refine (implNet_ (HNT.out.moved HB0.out)).mono ?_
  rintro e w1 ⟨rfl, hb1⟩
  have HB1 := Lib.hid hb1
  have HB01 := Lib.hid (HB0.out.trans (hb1.mono HB0.out.size))
  clear hb1
  by_cases hv : netP ss fs
  case neg =>
    have HE : Hid (false = r) := Lib.hid (by rw [← HRR.out]; exact (svs_net hv).symm)
    rw [pb_false hv]
    clear hv
    go_wp2
    go_ret
    exact ⟨retb HE.out, HB01.out⟩
  case pos =>
  have HV := Lib.hid hv
  rw [pb_true hv]
  clear hv
  by_cases hl : n3 ≤ 8
  case neg =>
    have HE : Hid (false = r) := Lib.hid (by rw [← HRR.out]; exact (svs_len (by have := HLD.out; omega)).symm)
    have hl2 : 8 < (n3 : Int) := by omega
    clear hl
    go_wp2
    go_ret
    exact ⟨retb HE.out, HB01.out⟩
  case pos =>
  have HL12 := Lib.hid hl
  have hl2 : (n3 : Int) ≤ 8 := by omega
  clear hl
  go_wp2
  go_loopw [5, 18] (fun la i wr => ∃ (k : Nat) (z : Int), k ≤ n3 ∧ i = .int .i64 k ∧ la = .int .i64 z ∧ Hid (z = svLast ds k) ∧ Hid (∀ i, i < k → svStep ss fs ds i) ∧ Hid (∀ i j, j < i → i < k → coD fs (svn ds j) (svn ds i) = true) ∧ Below W0.heap.size W0 wr) (fun _ i _ => n3 - (intOf i).toNat)
  case atStart => exact ⟨0, 0, Nat.zero_le _, rfl, rfl, Lib.hid rfl, Lib.hid (fun i hi => absurd hi (by omega)), Lib.hid (fun i j _ hi => absurd hi (by omega)), HB1.out⟩
  case round =>
    obtain ⟨k, z, hk, rfl, rfl, HZ, HA, HC, hb⟩ := hrel
    have HBW := Lib.hid (HB0.out.trans (hb.mono HB0.out.size))
    have HBR := Lib.hid hb
    have hzw : w.heap.size < wr.heap.size := Nat.lt_of_lt_of_le HZB.out hb.size
    by_cases hlt : k < n3
    case neg =>
      have HE : Hid (true = r) := Lib.hid (by
        rw [← HRR.out]
        exact (pb_true ⟨HV.out, by have := HLD.out; have := HL12.out; omega, fun i hi => HA.out i (by have := HLD.out; omega), fun i j hj hi => HC.out i j hj (by have := HLD.out; omega)⟩).symm)
      clear hb
      go_wp2
      go_ret
      exact ⟨retb HE.out, HBW.out⟩
    case pos =>
    have hkl : k < ys.length := by have := HT.out.len; omega
    have HKD : Hid (k < ds.length) := Lib.hid (by have := HLD.out; omega)
    obtain ⟨y, hke⟩ : ∃ y, ys[k]'hkl = y := ⟨_, rfl⟩
    have HDK := Lib.hid (svn_at HD.out hkl hke)
    have hyat : SvAt w y := by rw [← hke]; exact HT.out.at_ _ (List.getElem_mem hkl)
    have HYA := Lib.hid hyat
    have HST9 := Lib.hid (svStep_iff (ss := ss) (fs := fs) HDK.out)
    rw [← HZ.out] at HST9
    have HLA : Hid (svLast ds (k + 1) = y.i) := Lib.hid (by show (svn ds k).i = _; rw [HDK.out]; rfl)
    obtain ⟨hg3, r0, r1, r2, r3, r4, r5, r6, r7, r8, r9⟩ := (HT.out.moved HBW.out).rd.svc hkl
    rw [Nat.zero_add, hke] at r0 r1 r2 r3 r4 r5 r6 r7 r8 r9
    have k0 := (hb.cell (p := ⟨w.heap.size, 0, none⟩) HZB.out).trans HK0.out
    have k1 := (hb.cell (p := ⟨w.heap.size, 1, none⟩) HZB.out).trans HK1.out
    obtain ⟨X1, hX1⟩ : ∃ X, wr.alloc (Obj.cells #[.int .i64 y.i, .int .i64 y.k, .int .i64 y.s1, .slice y.A y.n y.c, .int .i64 y.x1, .int .i64 y.y1, .int .i64 y.s2, .slice y.A2 y.m y.c2, .int .i64 y.x2, .int .i64 y.y2] 67) = X := ⟨_, rfl⟩
    have ky0 : X1.cell? ⟨wr.heap.size, 0, none⟩ = some (.int .i64 y.i) := by rw [← hX1]; simp [go_sem]
    have ky1 : X1.cell? ⟨wr.heap.size, 1, none⟩ = some (.int .i64 y.k) := by rw [← hX1]; simp [go_sem]
    have ky2 : X1.cell? ⟨wr.heap.size, 2, none⟩ = some (.int .i64 y.s1) := by rw [← hX1]; simp [go_sem]
    have ky3 : X1.cell? ⟨wr.heap.size, 3, none⟩ = some (.slice y.A y.n y.c) := by rw [← hX1]; simp [go_sem]
    have ky4 : X1.cell? ⟨wr.heap.size, 4, none⟩ = some (.int .i64 y.x1) := by rw [← hX1]; simp [go_sem]
    have ky5 : X1.cell? ⟨wr.heap.size, 5, none⟩ = some (.int .i64 y.y1) := by rw [← hX1]; simp [go_sem]
    have ky6 : X1.cell? ⟨wr.heap.size, 6, none⟩ = some (.int .i64 y.s2) := by rw [← hX1]; simp [go_sem]
    have ky7 : X1.cell? ⟨wr.heap.size, 7, none⟩ = some (.slice y.A2 y.m y.c2) := by rw [← hX1]; simp [go_sem]
    have ky8 : X1.cell? ⟨wr.heap.size, 8, none⟩ = some (.int .i64 y.x2) := by rw [← hX1]; simp [go_sem]
    have ky9 : X1.cell? ⟨wr.heap.size, 9, none⟩ = some (.int .i64 y.y2) := by rw [← hX1]; simp [go_sem]
    have hzx : wr.heap.size < X1.heap.size := by rw [← hX1]; simp
    have HX1 : Hid (Below W0.heap.size W0 X1) := Lib.hid (by rw [← hX1]; exact HBR.out.alloc HBR.out.size _)
    have HKX : Hid (∀ U, Below X1.heap.size X1 U → U.cell? ⟨w.heap.size, 0, none⟩ = some (.slice (some ⟨g1, 0, none⟩) n1 c1) ∧ U.cell? ⟨w.heap.size, 1, none⟩ = some (.slice (some ⟨g2, 0, none⟩) n2 c2) ∧ w.heap.size < U.heap.size ∧ U.cell? ⟨wr.heap.size, 0, none⟩ = some (.int .i64 y.i) ∧ U.cell? ⟨wr.heap.size, 1, none⟩ = some (.int .i64 y.k) ∧ U.cell? ⟨wr.heap.size, 2, none⟩ = some (.int .i64 y.s1) ∧ U.cell? ⟨wr.heap.size, 3, none⟩ = some (.slice y.A y.n y.c) ∧ U.cell? ⟨wr.heap.size, 4, none⟩ = some (.int .i64 y.x1) ∧ U.cell? ⟨wr.heap.size, 5, none⟩ = some (.int .i64 y.y1) ∧ U.cell? ⟨wr.heap.size, 6, none⟩ = some (.int .i64 y.s2) ∧ U.cell? ⟨wr.heap.size, 7, none⟩ = some (.slice y.A2 y.m y.c2) ∧ U.cell? ⟨wr.heap.size, 8, none⟩ = some (.int .i64 y.x2) ∧ U.cell? ⟨wr.heap.size, 9, none⟩ = some (.int .i64 y.y2) ∧ wr.heap.size < U.heap.size) := Lib.hid fun U hU => ⟨((belT HX1.out hU).cell (p := ⟨w.heap.size, 0, none⟩) HZB.out).trans HK0.out, ((belT HX1.out hU).cell (p := ⟨w.heap.size, 1, none⟩) HZB.out).trans HK1.out, Nat.lt_of_lt_of_le HZB.out (belT HX1.out hU).size, (hU.cell (p := ⟨wr.heap.size, 0, none⟩) hzx).trans ky0, (hU.cell (p := ⟨wr.heap.size, 1, none⟩) hzx).trans ky1, (hU.cell (p := ⟨wr.heap.size, 2, none⟩) hzx).trans ky2, (hU.cell (p := ⟨wr.heap.size, 3, none⟩) hzx).trans ky3, (hU.cell (p := ⟨wr.heap.size, 4, none⟩) hzx).trans ky4, (hU.cell (p := ⟨wr.heap.size, 5, none⟩) hzx).trans ky5, (hU.cell (p := ⟨wr.heap.size, 6, none⟩) hzx).trans ky6, (hU.cell (p := ⟨wr.heap.size, 7, none⟩) hzx).trans ky7, (hU.cell (p := ⟨wr.heap.size, 8, none⟩) hzx).trans ky8, (hU.cell (p := ⟨wr.heap.size, 9, none⟩) hzx).trans ky9, Nat.lt_of_lt_of_le hzx hU.size⟩
    have HMX : Hid (∀ U, Below X1.heap.size X1 U → Below w.heap.size w U) := Lib.hid fun U hU => HB0.out.trans ((belT HX1.out hU).mono HB0.out.size)
    have hkn : k ≤ n3 := by omega
    go_upto_region 7 with fail
    try rw [hX1]
    clear hX1 ky0 ky1 ky2 ky3 ky4 ky5 ky6 ky7 ky8 ky9 hzx k0 k1 r0 r1 r2 r3 r4 r5 r6 r7 r8 r9 hg3 hyat hke hb hkl
    obtain ⟨T, f, x0, hx0, hTT, HST⟩ := above X1
    haveI : Nonempty T := ⟨x0⟩
    have HT1 : Hid (∀ x, Below X1.heap.size X1 (f x)) := Lib.hid hTT
    have HXX := Lib.hid hx0
    clear hTT hx0
    have s0_ : ∀ x, (f x).cell? ⟨w.heap.size, 0, none⟩ = some (.slice (some ⟨g1, 0, none⟩) n1 c1) := fun x => (HKX.out _ (HT1.out x)).1
    have s1_ : ∀ x, (f x).cell? ⟨w.heap.size, 1, none⟩ = some (.slice (some ⟨g2, 0, none⟩) n2 c2) := fun x => (HKX.out _ (HT1.out x)).2.1
    have s2_ : ∀ x, w.heap.size < (f x).heap.size := fun x => (HKX.out _ (HT1.out x)).2.2.1
    have s3_ : ∀ x, (f x).cell? ⟨wr.heap.size, 0, none⟩ = some (.int .i64 y.i) := fun x => (HKX.out _ (HT1.out x)).2.2.2.1
    have s4_ : ∀ x, (f x).cell? ⟨wr.heap.size, 1, none⟩ = some (.int .i64 y.k) := fun x => (HKX.out _ (HT1.out x)).2.2.2.2.1
    have s5_ : ∀ x, (f x).cell? ⟨wr.heap.size, 2, none⟩ = some (.int .i64 y.s1) := fun x => (HKX.out _ (HT1.out x)).2.2.2.2.2.1
    have s6_ : ∀ x, (f x).cell? ⟨wr.heap.size, 3, none⟩ = some (.slice y.A y.n y.c) := fun x => (HKX.out _ (HT1.out x)).2.2.2.2.2.2.1
    have s7_ : ∀ x, (f x).cell? ⟨wr.heap.size, 4, none⟩ = some (.int .i64 y.x1) := fun x => (HKX.out _ (HT1.out x)).2.2.2.2.2.2.2.1
    have s8_ : ∀ x, (f x).cell? ⟨wr.heap.size, 5, none⟩ = some (.int .i64 y.y1) := fun x => (HKX.out _ (HT1.out x)).2.2.2.2.2.2.2.2.1
    have s9_ : ∀ x, (f x).cell? ⟨wr.heap.size, 6, none⟩ = some (.int .i64 y.s2) := fun x => (HKX.out _ (HT1.out x)).2.2.2.2.2.2.2.2.2.1
    have s10_ : ∀ x, (f x).cell? ⟨wr.heap.size, 7, none⟩ = some (.slice y.A2 y.m y.c2) := fun x => (HKX.out _ (HT1.out x)).2.2.2.2.2.2.2.2.2.2.1
    have s11_ : ∀ x, (f x).cell? ⟨wr.heap.size, 8, none⟩ = some (.int .i64 y.x2) := fun x => (HKX.out _ (HT1.out x)).2.2.2.2.2.2.2.2.2.2.2.1
    have s12_ : ∀ x, (f x).cell? ⟨wr.heap.size, 9, none⟩ = some (.int .i64 y.y2) := fun x => (HKX.out _ (HT1.out x)).2.2.2.2.2.2.2.2.2.2.2.2.1
    have s13_ : ∀ x, wr.heap.size < (f x).heap.size := fun x => (HKX.out _ (HT1.out x)).2.2.2.2.2.2.2.2.2.2.2.2.2
    obtain ⟨b1, hb1⟩ : ∃ b, pb (svP ss fs y.d) = b := ⟨_, rfl⟩
    have CI : Hid (∀ U, Below X1.heap.size X1 U → Calls Tryd.prog 63 #[.agg #[.slice (some ⟨g1, 0, none⟩) n1 c1, .slice (some ⟨g2, 0, none⟩) n2 c2], .agg #[.int .i64 y.i, .int .i64 y.k, .int .i64 y.s1, .slice y.A y.n y.c, .int .i64 y.x1, .int .i64 y.y1, .int .i64 y.s2, .slice y.A2 y.m y.c2, .int .i64 y.x2, .int .i64 y.y2]] U (RetP (.bool b1) U)) := Lib.hid fun U hU => by rw [← hb1]; exact isServiceOf_ (c := y.c) (c2 := y.c2) (HNT.out.moved (HMX.out _ hU)) HV.out y.i y.k y.s1 y.x1 y.y1 y.s2 y.x2 y.y2 HYA.out.1.1 (HYA.out.1.2.2.moved (HMX.out _ hU)) HYA.out.1.2.1 HYA.out.2.1 (HYA.out.2.2.2.moved (HMX.out _ hU)) HYA.out.2.2.1
    have H1 := Lib.hid hb1
    clear hb1
    by_cases hid : y.i ≤ z
    case pos =>
      have hid2 : decide (y.i ≤ z) = true := decide_eq_true hid
      have HE : Hid (false = r) := Lib.hid (by rw [← HRR.out]; exact (svs_step HKD.out (fun h => by have h9 : z < y.i := (HST9.out.1 h).2; omega)).symm)
      clear hid
      refine wp_region_class f (by kernel_rfl) (by kernel_rfl) x0 HXX.out ?_
      repeat (go_big_quiet_step (fail))
      refine wpQuiet_nil ?_
      rintro _ ⟨x, rfl⟩
      have HB2 := Lib.hid (HT1.out x)
      clear s0_ s1_ s2_ s3_ s4_ s5_ s6_ s7_ s8_ s9_ s10_ s11_ s12_ s13_
      generalize f x = w3 at HB2 ⊢
      go_wp2
      go_ret
      exact ⟨retb HE.out, HMX.out _ HB2.out⟩
    case neg =>
    have hid2 : decide (y.i ≤ z) = false := decide_eq_false hid
    have HID : Hid (z < y.i) := Lib.hid (by omega)
    clear hid
    cases b1
    case false =>
      have HE : Hid (false = r) := Lib.hid (by rw [← HRR.out]; exact (svs_step HKD.out (fun h => by have h9 := (HST9.out.1 h).1; rw [pb_true h9] at H1; exact absurd H1.out (by decide))).symm)
      have CL : Hid (∀ x, Calls Tryd.prog 63 #[.agg #[.slice (some ⟨g1, 0, none⟩) n1 c1, .slice (some ⟨g2, 0, none⟩) n2 c2], .agg #[.int .i64 y.i, .int .i64 y.k, .int .i64 y.s1, .slice y.A y.n y.c, .int .i64 y.x1, .int .i64 y.y1, .int .i64 y.s2, .slice y.A2 y.m y.c2, .int .i64 y.x2, .int .i64 y.y2]] (f x) (RetP (.bool false) (f x))) := Lib.hid fun x => CI.out _ (HT1.out x)
      refine wp_region_class f (by kernel_rfl) (by kernel_rfl) x0 HXX.out ?_
      repeat (go_big_quiet_step ((go_at_call 63; with_reducible exact Calls.inClass HST (CL.out _))))
      refine wpQuiet_nil ?_
      rintro _ ⟨x, rfl⟩
      have HB2 := Lib.hid (HT1.out x)
      clear s0_ s1_ s2_ s3_ s4_ s5_ s6_ s7_ s8_ s9_ s10_ s11_ s12_ s13_
      generalize f x = w3 at HB2 ⊢
      go_wp2
      go_ret
      exact ⟨retb HE.out, HMX.out _ HB2.out⟩
    case true =>
    clear s0_ s1_ s2_ s3_ s4_ s5_ s6_ s7_ s8_ s9_ s10_ s11_ s12_ s13_ HT1 HXX HST
    have HPY := Lib.hid (of_pb H1.out)
    have HSK := Lib.hid (HST9.out.2 ⟨HPY.out, HID.out⟩)
    have CA := Lib.hid (fun (U : World) (hU : Below X1.heap.size X1 U) => against_ (k := k) (HNT.out.moved (HMX.out _ hU)) HV.out (HT.out.moved (HMX.out _ hU)) HD.out hs hkn (fun j hj => (HA.out j hj).1) y (HYA.out.moved (HMX.out _ hU)) HPY.out)
    obtain ⟨p0, p1, p2, p3, p4, p5, p6, p7, p8, p9, p10, p11, p12, p13⟩ := HKX.out X1 (Below.refl _ _)
    have HXB : Hid (∀ U, Below X1.heap.size X1 U → (U.cell? ⟨w.heap.size, 0, none⟩ = some (.slice (some ⟨g1, 0, none⟩) n1 c1) ∧ U.cell? ⟨w.heap.size, 1, none⟩ = some (.slice (some ⟨g2, 0, none⟩) n2 c2) ∧ w.heap.size < U.heap.size ∧ U.cell? ⟨wr.heap.size, 0, none⟩ = some (.int .i64 y.i) ∧ U.cell? ⟨wr.heap.size, 1, none⟩ = some (.int .i64 y.k) ∧ U.cell? ⟨wr.heap.size, 2, none⟩ = some (.int .i64 y.s1) ∧ U.cell? ⟨wr.heap.size, 3, none⟩ = some (.slice y.A y.n y.c) ∧ U.cell? ⟨wr.heap.size, 4, none⟩ = some (.int .i64 y.x1) ∧ U.cell? ⟨wr.heap.size, 5, none⟩ = some (.int .i64 y.y1) ∧ U.cell? ⟨wr.heap.size, 6, none⟩ = some (.int .i64 y.s2) ∧ U.cell? ⟨wr.heap.size, 7, none⟩ = some (.slice y.A2 y.m y.c2) ∧ U.cell? ⟨wr.heap.size, 8, none⟩ = some (.int .i64 y.x2) ∧ U.cell? ⟨wr.heap.size, 9, none⟩ = some (.int .i64 y.y2) ∧ wr.heap.size < U.heap.size)) := Lib.hid HKX.out
    by_cases hall : ∀ j, j < k → coD fs y.d (svn ds j) = true
    case neg =>
      have CA2 : Hid (∀ U, Below X1.heap.size X1 U → Calls Tryd.prog 64 #[.agg #[.slice (some ⟨g1, 0, none⟩) n1 c1, .slice (some ⟨g2, 0, none⟩) n2 c2], .slice (some ⟨g3, 0, none⟩) k n3, .agg #[.int .i64 y.i, .int .i64 y.k, .int .i64 y.s1, .slice y.A y.n y.c, .int .i64 y.x1, .int .i64 y.y1, .int .i64 y.s2, .slice y.A2 y.m y.c2, .int .i64 y.x2, .int .i64 y.y2]] U fun e w' => ∃ p, e = .returned (.iface 145 (.pointer p)) ∧ Below U.heap.size U w') := Lib.hid fun U hU => (CA.out U hU).mono (by
        rintro e w' ⟨v, rfl, HH, hb⟩
        rcases HH.out with ⟨h9, _⟩ | ⟨_, p, rfl⟩
        · exact absurd h9 hall
        · exact ⟨p, rfl, hb⟩)
      have HE : Hid (false = r) := Lib.hid (by
        rw [← HRR.out]
        refine (pb_false (fun h => hall (fun j hj => ?_))).symm
        have h9 := h.2.2.2 k j hj HKD.out
        rw [← h9, HDK.out]
        exact co_symm HV.out HPY.out (HA.out j hj).1)
      clear hall CA
      go_wp2_with fail
      go_region_held3 (fun U => U.cell? ⟨w.heap.size, 0, none⟩ = some (.slice (some ⟨g1, 0, none⟩) n1 c1) ∧ U.cell? ⟨w.heap.size, 1, none⟩ = some (.slice (some ⟨g2, 0, none⟩) n2 c2) ∧ w.heap.size < U.heap.size ∧ U.cell? ⟨wr.heap.size, 0, none⟩ = some (.int .i64 y.i) ∧ U.cell? ⟨wr.heap.size, 1, none⟩ = some (.int .i64 y.k) ∧ U.cell? ⟨wr.heap.size, 2, none⟩ = some (.int .i64 y.s1) ∧ U.cell? ⟨wr.heap.size, 3, none⟩ = some (.slice y.A y.n y.c) ∧ U.cell? ⟨wr.heap.size, 4, none⟩ = some (.int .i64 y.x1) ∧ U.cell? ⟨wr.heap.size, 5, none⟩ = some (.int .i64 y.y1) ∧ U.cell? ⟨wr.heap.size, 6, none⟩ = some (.int .i64 y.s2) ∧ U.cell? ⟨wr.heap.size, 7, none⟩ = some (.slice y.A2 y.m y.c2) ∧ U.cell? ⟨wr.heap.size, 8, none⟩ = some (.int .i64 y.x2) ∧ U.cell? ⟨wr.heap.size, 9, none⟩ = some (.int .i64 y.y2) ∧ wr.heap.size < U.heap.size)
        (((with_reducible refine HXB.out _ ?_); (repeat (first | with_reducible exact Below.refl _ _ | with_reducible exact HUA.out | with_reducible exact HUB.out | with_reducible refine Below.drew ?_))))
        (first
          | (go_at_call 63
             (refine (CI.out _ ?_).mono ?_); (focus (repeat (first | with_reducible exact Below.refl _ _ | with_reducible exact HUA.out | with_reducible exact HUB.out | with_reducible refine Below.drew ?_)))
             rintro e uA ⟨rfl, hbA⟩
             have HUA : Hid (Below X1.heap.size X1 uA) := Lib.hid (by refine belT ?_ hbA; (repeat (first | with_reducible exact Below.refl _ _ | with_reducible exact HUA.out | with_reducible exact HUB.out | with_reducible refine Below.drew ?_)))
             clear hbA)
          | (go_at_call 64
             (refine (CA2.out _ ?_).mono ?_); (focus (repeat (first | with_reducible exact Below.refl _ _ | with_reducible exact HUA.out | with_reducible exact HUB.out | with_reducible refine Below.drew ?_)))
             rintro e uB ⟨pp, rfl, hbB⟩
             have HUB : Hid (Below X1.heap.size X1 uB) := Lib.hid (by refine belT ?_ hbB; (repeat (first | with_reducible exact Below.refl _ _ | with_reducible exact HUA.out | with_reducible exact HUB.out | with_reducible refine Below.drew ?_)))
             clear hbB))
      all_goals
        clear p0 p1 p2 p3 p4 p5 p6 p7 p8 p9 p10 p11 p12 p13
        go_wp2
        go_ret
        exact ⟨retb HE.out, HMX.out _ HUB.out⟩
    case pos =>
      have CA2 : Hid (∀ U, Below X1.heap.size X1 U → Calls Tryd.prog 64 #[.agg #[.slice (some ⟨g1, 0, none⟩) n1 c1, .slice (some ⟨g2, 0, none⟩) n2 c2], .slice (some ⟨g3, 0, none⟩) k n3, .agg #[.int .i64 y.i, .int .i64 y.k, .int .i64 y.s1, .slice y.A y.n y.c, .int .i64 y.x1, .int .i64 y.y1, .int .i64 y.s2, .slice y.A2 y.m y.c2, .int .i64 y.x2, .int .i64 y.y2]] U fun e w' => e = .returned .nilIface ∧ Below U.heap.size U w') := Lib.hid fun U hU => (CA.out U hU).mono (by
        rintro e w' ⟨v, rfl, HH, hb⟩
        rcases HH.out with ⟨_, rfl⟩ | ⟨⟨j, h8, h9⟩, _⟩
        · exact ⟨rfl, hb⟩
        · exact absurd (hall j h8) (by rw [h9]; decide))
      have HA2 : Hid (∀ i, i < k + 1 → svStep ss fs ds i) := Lib.hid (fun i hi => by
        by_cases h : i < k
        · exact HA.out i h
        · obtain rfl : i = k := by omega
          exact HSK.out)
      have HC2 : Hid (∀ i j, j < i → i < k + 1 → coD fs (svn ds j) (svn ds i) = true) := Lib.hid (fun i j hji hi => by
        by_cases h : i < k
        · exact HC.out i j hji h
        · obtain rfl : i = k := by omega
          rw [HDK.out, ← co_symm HV.out HPY.out (HA.out j hji).1]
          exact hall j hji)
      clear hall CA
      go_wp2_with fail
      go_region_held3 (fun U => U.cell? ⟨w.heap.size, 0, none⟩ = some (.slice (some ⟨g1, 0, none⟩) n1 c1) ∧ U.cell? ⟨w.heap.size, 1, none⟩ = some (.slice (some ⟨g2, 0, none⟩) n2 c2) ∧ w.heap.size < U.heap.size ∧ U.cell? ⟨wr.heap.size, 0, none⟩ = some (.int .i64 y.i) ∧ U.cell? ⟨wr.heap.size, 1, none⟩ = some (.int .i64 y.k) ∧ U.cell? ⟨wr.heap.size, 2, none⟩ = some (.int .i64 y.s1) ∧ U.cell? ⟨wr.heap.size, 3, none⟩ = some (.slice y.A y.n y.c) ∧ U.cell? ⟨wr.heap.size, 4, none⟩ = some (.int .i64 y.x1) ∧ U.cell? ⟨wr.heap.size, 5, none⟩ = some (.int .i64 y.y1) ∧ U.cell? ⟨wr.heap.size, 6, none⟩ = some (.int .i64 y.s2) ∧ U.cell? ⟨wr.heap.size, 7, none⟩ = some (.slice y.A2 y.m y.c2) ∧ U.cell? ⟨wr.heap.size, 8, none⟩ = some (.int .i64 y.x2) ∧ U.cell? ⟨wr.heap.size, 9, none⟩ = some (.int .i64 y.y2) ∧ wr.heap.size < U.heap.size)
        (((with_reducible refine HXB.out _ ?_); (repeat (first | with_reducible exact Below.refl _ _ | with_reducible exact HUA.out | with_reducible exact HUB.out | with_reducible refine Below.drew ?_))))
        (first
          | (go_at_call 63
             (refine (CI.out _ ?_).mono ?_); (focus (repeat (first | with_reducible exact Below.refl _ _ | with_reducible exact HUA.out | with_reducible exact HUB.out | with_reducible refine Below.drew ?_)))
             rintro e uA ⟨rfl, hbA⟩
             have HUA : Hid (Below X1.heap.size X1 uA) := Lib.hid (by refine belT ?_ hbA; (repeat (first | with_reducible exact Below.refl _ _ | with_reducible exact HUA.out | with_reducible exact HUB.out | with_reducible refine Below.drew ?_)))
             clear hbA)
          | (go_at_call 64
             (refine (CA2.out _ ?_).mono ?_); (focus (repeat (first | with_reducible exact Below.refl _ _ | with_reducible exact HUA.out | with_reducible exact HUB.out | with_reducible refine Below.drew ?_)))
             rintro e uB ⟨rfl, hbB⟩
             have HUB : Hid (Below X1.heap.size X1 uB) := Lib.hid (by refine belT ?_ hbB; (repeat (first | with_reducible exact Below.refl _ _ | with_reducible exact HUA.out | with_reducible exact HUB.out | with_reducible refine Below.drew ?_)))
             clear hbB))
      all_goals
        have hq := HXB.out _ HUB.out
        obtain ⟨a0, a1, a2, a3, a4⟩ := hq
        clear p0 p1 p2 p3 p4 p5 p6 p7 p8 p9 p10 p11 p12 p13
        go_wp2
        go_roundw
        case rel => exact ⟨k + 1, y.i, by omega, by go_num, rfl, Lib.hid HLA.out.symm, HA2, HC2, belT HX1.out HUB.out⟩
        case measure => simp [intOf]; omega
end Go.Proofs.YtlgkjidginibdaaDoor
