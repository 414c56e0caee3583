/- Plans: how many slots are occupied: contracts of PlanUse, both sides. No condition but those typed. -/
import Derived.Test.YtnbeomnlobfpfaaFm
import Derived.Test.YtnbeomnlobfpfaaOnes2
namespace Go.Proofs.Ytnbeomnlobfpfaa
open Go.ChangeShapes Go.WideShapes Go.ChangeAt Go.RowKit Go.Maps

theorem bitP1 (m k : Nat) (hm : m ≤ 16777215) : bits .and .i64 ((m : Int) / 2 ^ k) 1 = ((m / 2 ^ k % 2 : Nat) : Int) := by
  have e : (m : Int) / 2 ^ k = ((m / 2 ^ k : Nat) : Int) := by simp
  have h1 : m / 2 ^ k ≤ m := Nat.div_le_self _ _
  rw [e]
  have := and_i64q (m / 2 ^ k) 1 (by omega) (by omega)
  have e1 : ((1 : Nat) : Int) = 1 := rfl
  rw [e1] at this
  rw [this, Nat.and_one_is_mod]
set_option maxHeartbeats 1000000 in
theorem cntP_ (m : Nat) (w : World) (h : m ≤ 16777215) : Calls Try.prog 75 #[.int .i64 (m : Int)] w fun e w' => e = .returned (.int .i64 (popN m 24 : Int)) ∧ w = w' := by
  go_enter Try.func75, Try.ntmps75
  go_wp2
  go_loopw [3, 4] (fun v i wr => ∃ k : Nat, k ≤ 24 ∧ i = .int .i64 k ∧ v = .int .i64 (popN m k : Int) ∧ w = wr) (fun _ i _ => 24 - (intOf i).toNat)
  case atStart => exact ⟨0, Nat.zero_le _, rfl, rfl, rfl⟩
  case round =>
    obtain ⟨k, hk, rfl, rfl, rfl⟩ := hrel
    by_cases hlt : k < 24
    case pos =>
      have HB1 := Lib.hid (bitP1 m k h)
      have hst : popN m (k + 1) = popN m k + m / 2 ^ k % 2 := rfl
      have hpl := popN_le m k
      obtain ⟨b, hbb⟩ : ∃ b, m / 2 ^ k % 2 = b := ⟨_, rfl⟩
      have hb1 : b ≤ 1 := by omega
      have hq : bits .and .i64 ((m : Int) / 2 ^ k) 1 = (b : Int) := by rw [HB1.out, hbb]
      rw [hbb] at hst
      obtain ⟨n, hn⟩ : ∃ n, popN m k = n := ⟨_, rfl⟩
      rw [hn] at hst hpl ⊢
      have HST := Lib.hid hst
      have hlt' : (k : Int) < 24 := by omega
      have hn24 : (n : Int) ≤ 24 := by omega
      have hb1' : (b : Int) ≤ 1 := by omega
      clear HB1 hst hbb hn
      go_wp2
      go_roundw
      case rel => exact ⟨k + 1, by omega, by go_num, by rw [HST.out]; go_num, by first | rfl | trivial⟩
      case measure => simp [intOf]; omega
    case neg =>
      have hk24 : k = 24 := by omega
      subst hk24
      go_wp2
      go_ret
      exact ⟨rfl, rfl⟩

def puS (ds : List LtD) : Nat → Nat
  | 0 => 0
  | k + 1 => puS ds k + popN (usedK ds ds.length (k : Int)) 24
def puA (ds : List LtD) : Nat → Nat
  | 0 => 0
  | k + 1 => puA ds k ||| usedK ds ds.length (k : Int)
theorem puS_le (ds : List LtD) : ∀ k, puS ds k ≤ 24 * k
  | 0 => Nat.le_refl _
  | k + 1 => by have := puS_le ds k; have := popN_le (usedK ds ds.length (k : Int)) 24; unfold puS; omega
theorem puA_lt {ds : List LtD} (h : ∀ x : Int, usedK ds ds.length x < 2 ^ 24) : ∀ k, puA ds k < 2 ^ 24
  | 0 => by unfold puA; decide
  | k + 1 => by unfold puA; exact Nat.or_lt_two_pow (puA_lt h k) (h _)
noncomputable def puV (ss : List ByteArray) (fs : List Q4) (ds : List LtD) : Int := if fmB ss fs ds then (puS ds fs.length : Int) else 0
noncomputable def puW (ss : List ByteArray) (fs : List Q4) (ds : List LtD) : Int := if fmB ss fs ds then (popN (puA ds fs.length) 24 : Int) else 0
noncomputable def puR (ss : List ByteArray) (fs : List Q4) (ds : List LtD) : Value := .tuple #[.int .i64 (puV ss fs ds), .int .i64 (puW ss fs ds), .bool (fmB ss fs ds)]
theorem pu_no {ss : List ByteArray} {fs : List Q4} {ds : List LtD} (e : fmB ss fs ds = false) : (.tuple #[.int .i64 0, .int .i64 0, .bool false] : Value) = puR ss fs ds := by
  unfold puR puV puW; rw [e]; rfl
theorem pu_yes {ss : List ByteArray} {fs : List Q4} {ds : List LtD} (e : fmB ss fs ds = true) : (.tuple #[.int .i64 (puS ds fs.length : Int), .int .i64 (popN (puA ds fs.length) 24 : Int), .bool true] : Value) = puR ss fs ds := by
  unfold puR puV puW; rw [e]; rfl

set_option maxRecDepth 100000 in
set_option maxHeartbeats 4000000 in
theorem specPU {g1 g2 g3 n1 n2 n3 c1 c2 B : Nat} {ss : List ByteArray} {fs : List Q4} {ys : List Lt} {ds : List LtD} {w : World} (h : NetAt g1 g2 n1 n2 c1 c2 ss fs w) (hT : Lts B g3 n3 ys w) (hd : ys.map Lt.d = ds) (hs : n3 ≤ 1048576) :
    Calls Try.prog 14 #[.agg #[.slice (some ⟨g1, 0, none⟩) n1 c1, .slice (some ⟨g2, 0, none⟩) n2 c2, .slice (some ⟨g3, 0, none⟩) n3 n3]] w (RetP (puR ss fs ds) w) := by
  have HL2 := Lib.hid h.ln2
  have HNT := Lib.hid h; have HT := Lib.hid hT; have HD := Lib.hid hd
  have HLD : Hid (ds.length = n3) := Lib.hid (by rw [← hd, List.length_map]; exact hT.len)
  clear h hT hd
  obtain ⟨R, hR⟩ : ∃ r, puR ss fs ds = r := ⟨_, rfl⟩
  rw [hR]
  have HNO : Hid (fmB ss fs ds = false → (.tuple #[.int .i64 0, .int .i64 0, .bool false] : Value) = R) := Lib.hid (fun e => by rw [← hR]; exact pu_no e)
  have HYES : Hid (fmB ss fs ds = true → (.tuple #[.int .i64 (puS ds fs.length : Int), .int .i64 (popN (puA ds fs.length) 24 : Int), .bool true] : Value) = R) := Lib.hid (fun e => by rw [← hR]; exact pu_yes e)
  clear hR
  go_enter Try.func14, Try.ntmps14
  go_wp2_with fail
  obtain ⟨W0, hW0⟩ : ∃ W0, w.alloc (Obj.cells #[.slice (some ⟨g1, 0, none⟩) n1 c1, .slice (some ⟨g2, 0, none⟩) n2 c2, .slice (some ⟨g3, 0, none⟩) n3 n3] 37) = W0 := ⟨_, rfl⟩
  have hb0 : Below w.heap.size w W0 := by rw [← hW0]; exact (Below.refl _ _).alloc (Nat.le_refl _) _
  have hk0 : W0.cell? ⟨w.heap.size, 0, none⟩ = some (.slice (some ⟨g1, 0, none⟩) n1 c1) := by rw [← hW0]; simp [go_sem]
  have hk1 : W0.cell? ⟨w.heap.size, 1, none⟩ = some (.slice (some ⟨g2, 0, none⟩) n2 c2) := by rw [← hW0]; simp [go_sem]
  have hk2 : W0.cell? ⟨w.heap.size, 2, none⟩ = some (.slice (some ⟨g3, 0, none⟩) n3 n3) := by rw [← hW0]; simp [go_sem]
  have hz0 : w.heap.size < W0.heap.size := by rw [← hW0]; simp
  have HB0 := Lib.hid hb0
  rw [hW0]
  clear hW0 hb0
  have CG := Lib.hid (l9Good_ (HNT.out.moved HB0.out) (HT.out.moved HB0.out) HD.out hs)
  obtain ⟨b, hb⟩ : ∃ b, pb (planP ss fs ds) = b := ⟨_, rfl⟩
  rw [hb] at CG
  have HPB := Lib.hid hb
  clear hb
  refine CG.out.mono ?_
  rintro e w1 ⟨rfl, hb1⟩
  have HB1 := Lib.hid (HB0.out.trans (hb1.mono HB0.out.size))
  have l0 := (hb1.cell (p := ⟨w.heap.size, 0, none⟩) hz0).trans hk0
  have l1 := (hb1.cell (p := ⟨w.heap.size, 1, none⟩) hz0).trans hk1
  have l2 := (hb1.cell (p := ⟨w.heap.size, 2, none⟩) hz0).trans hk2
  have hzw : w.heap.size < w1.heap.size := Nat.lt_of_lt_of_le hz0 hb1.size
  clear hb1 hk0 hk1 hk2 hz0
  cases b
  case false =>
    have HNOB := Lib.hid (HNO.out HPB.out)
    go_wp2
    exact bodyPost_ret (v := .tuple #[.int .i64 0, .int .i64 0, .bool false]) (by simp [results, Try.results14, go_sem]) rfl (retP HNOB.out HB1.out)
  case true =>
  have HPL : Hid (planP ss fs ds) := Lib.hid (of_pb HPB.out)
  have HYS := Lib.hid (HYES.out HPB.out)
  have hnf : n2 ≤ 14 := by have := HPL.out.1.2.1; have := HL2.out; omega
  have HBLK : Hid (∀ t, t < ds.length → blkP (dn ds t).q0 (dn ds t).q1) := Lib.hid (fun t ht => (HPL.out.2.2.1 t ht).1.2.2)
  have HUS : Hid (∀ x : Int, usedK ds ds.length x < 2 ^ 24) := Lib.hid (fun x => used_lt (fun t ht => HBLK.out t ht))
  have HK0 := Lib.hid l0; have HK1 := Lib.hid l1; have HK2 := Lib.hid l2
  have HZB := Lib.hid hzw
  clear hzw l0 l1 l2
  go_wp2
  go_loopw [5, 6, 7] (fun u v i wr => ∃ (k s a : Nat), k ≤ n2 ∧ i = .int .i64 k ∧ u = .int .i64 s ∧ v = .int .i64 a ∧ Hid (s = puS ds k) ∧ Hid (a = puA ds k) ∧ s ≤ 24 * k ∧ a < 16777216 ∧ Below w1.heap.size w1 wr) (fun _ _ i _ => n2 - (intOf i).toNat)
  case atStart => exact ⟨0, 0, 0, Nat.zero_le _, rfl, rfl, rfl, Lib.hid rfl, Lib.hid rfl, by omega, by omega, Below.refl _ _⟩
  case round =>
    obtain ⟨k, s, a, hk, rfl, rfl, rfl, HS, HA, hs24, ha24, hb⟩ := hrel
    have HBW := Lib.hid (HB1.out.trans (hb.mono HB1.out.size))
    have l0 := (hb.cell (p := ⟨w.heap.size, 0, none⟩) HZB.out).trans HK0.out
    have l1 := (hb.cell (p := ⟨w.heap.size, 1, none⟩) HZB.out).trans HK1.out
    have l2 := (hb.cell (p := ⟨w.heap.size, 2, none⟩) HZB.out).trans HK2.out
    have hzw : w.heap.size < wr.heap.size := Nat.lt_of_lt_of_le HZB.out hb.size
    have HBR := Lib.hid hb
    clear hb
    by_cases hlt : k < n2
    case neg =>
      have HE1 : Hid (puS ds fs.length = s) := Lib.hid (by rw [HS.out, show fs.length = k by have := HL2.out; omega])
      have HE2 : Hid (puA ds fs.length = a) := Lib.hid (by rw [HA.out, show fs.length = k by have := HL2.out; omega])
      have HRV : Hid ((.tuple #[.int .i64 (s : Int), .int .i64 (popN a 24 : Int), .bool true] : Value) = R) := Lib.hid (by rw [← HYS.out, HE1.out, HE2.out])
      have CC := Lib.hid (cntP_ a wr (by omega))
      obtain ⟨r, hr⟩ : ∃ r, (popN a 24 : Int) = r := ⟨_, rfl⟩
      rw [hr] at CC HRV
      clear hr
      go_wp2_with fail
      refine CC.out.mono ?_
      rintro e w' ⟨rfl, rfl⟩
      go_wp2
      exact bodyPost_ret (v := .tuple #[.int .i64 (s : Int), .int .i64 r, .bool true]) (by simp [results, Try.results14, go_sem]) rfl (retP HRV.out HBW.out)
    case pos =>
    have CU := Lib.hid (l9Used_ (HNT.out.moved HBW.out) (HT.out.moved HBW.out) HD.out hs HBLK.out (k : Int))
    have HUL := Lib.hid (HUS.out (k : Int))
    have HSN : Hid (puS ds (k + 1) = s + popN (usedK ds ds.length (k : Int)) 24) := Lib.hid (by rw [HS.out]; rfl)
    have HAN : Hid (puA ds (k + 1) = a ||| usedK ds ds.length (k : Int)) := Lib.hid (by rw [HA.out]; rfl)
    obtain ⟨u, hu⟩ : ∃ u, usedK ds ds.length (k : Int) = u := ⟨_, rfl⟩
    rw [hu] at HUL HSN HAN
    have HU := Lib.hid hu
    rw [hu] at CU
    clear hu
    have CC := Lib.hid (fun W => cntP_ u W (by have := HUL.out; omega))
    have hp24 := popN_le u 24
    obtain ⟨p, hp⟩ : ∃ p, popN u 24 = p := ⟨_, rfl⟩
    rw [hp] at CC HSN hp24
    clear hp
    have hsp : IntKind.i64.wrap ((s : Int) + (p : Int)) = ((s + p : Nat) : Int) := by rw [IntWalk.i64_in _ (by omega)]; omega
    have hor := or_i64_ a u (by omega) (by have := HUL.out; omega)
    have hol : a ||| u < 2 ^ 24 := Nat.or_lt_two_pow (by omega) HUL.out
    obtain ⟨o, ho⟩ : ∃ o, a ||| u = o := ⟨_, rfl⟩
    rw [ho] at hor hol HAN
    clear ho
    go_wp2_with fail
    refine CU.out.mono ?_
    rintro e w2 ⟨rfl, hb2⟩
    have HB2 := Lib.hid (HBR.out.trans (hb2.mono HBR.out.size))
    have HBW2 := Lib.hid (HBW.out.trans (hb2.mono HBW.out.size))
    have CU2 := Lib.hid (l9Used_ (HNT.out.moved HBW2.out) (HT.out.moved HBW2.out) HD.out hs HBLK.out (k : Int))
    rw [HU.out] at CU2
    have m0 := (hb2.cell (p := ⟨w.heap.size, 0, none⟩) hzw).trans l0
    have m1 := (hb2.cell (p := ⟨w.heap.size, 1, none⟩) hzw).trans l1
    have m2 := (hb2.cell (p := ⟨w.heap.size, 2, none⟩) hzw).trans l2
    clear hb2 l0 l1 l2 hzw
    go_wp2_with fail
    refine (CC.out _).mono ?_
    rintro e w' ⟨rfl, rfl⟩
    go_wp2_with fail
    refine CU2.out.mono ?_
    rintro e w3 ⟨rfl, hb3⟩
    have HB3 := Lib.hid (HB2.out.trans (hb3.mono HB2.out.size))
    clear hb3 m0 m1 m2
    go_wp2
    go_roundw
    case rel => exact ⟨k + 1, s + p, o, by omega, by go_num, rfl, rfl, Lib.hid HSN.out.symm, Lib.hid HAN.out.symm, by omega, by omega, HB3.out⟩
    case measure => simp [intOf]; omega

set_option maxRecDepth 100000 in
set_option maxHeartbeats 4000000 in
theorem implPU {g1 g2 g3 n1 n2 n3 c1 c2 B : Nat} {ss : List ByteArray} {fs : List Q4} {ys : List Lt} {ds : List LtD} {w : World} (h : NetAt g1 g2 n1 n2 c1 c2 ss fs w) (hT : Lts B g3 n3 ys w) (hd : ys.map Lt.d = ds) (hs : n3 ≤ 1048576) :
    Calls Try.prog 16 #[.agg #[.slice (some ⟨g1, 0, none⟩) n1 c1, .slice (some ⟨g2, 0, none⟩) n2 c2, .slice (some ⟨g3, 0, none⟩) n3 n3]] w (RetP (puR ss fs ds) w) := by
  have HL2 := Lib.hid h.ln2
  have HNT := Lib.hid h; have HT := Lib.hid hT; have HD := Lib.hid hd
  have HLD : Hid (ds.length = n3) := Lib.hid (by rw [← hd, List.length_map]; exact hT.len)
  clear h hT hd
  obtain ⟨R, hR⟩ : ∃ r, puR ss fs ds = r := ⟨_, rfl⟩
  rw [hR]
  have HNO : Hid (fmB ss fs ds = false → (.tuple #[.int .i64 0, .int .i64 0, .bool false] : Value) = R) := Lib.hid (fun e => by rw [← hR]; exact pu_no e)
  have HYES : Hid (fmB ss fs ds = true → (.tuple #[.int .i64 (puS ds fs.length : Int), .int .i64 (popN (puA ds fs.length) 24 : Int), .bool true] : Value) = R) := Lib.hid (fun e => by rw [← hR]; exact pu_yes e)
  clear hR
  go_enter Try.func16, Try.ntmps16
  go_wp2_with fail
  obtain ⟨W0, hW0⟩ : ∃ W0, w.alloc (Obj.cells #[.slice (some ⟨g1, 0, none⟩) n1 c1, .slice (some ⟨g2, 0, none⟩) n2 c2, .slice (some ⟨g3, 0, none⟩) n3 n3] 37) = W0 := ⟨_, rfl⟩
  have hb0 : Below w.heap.size w W0 := by rw [← hW0]; exact (Below.refl _ _).alloc (Nat.le_refl _) _
  have HB0 := Lib.hid hb0
  rw [hW0]
  clear hW0 hb0
  have CM := Lib.hid (implFM (HNT.out.moved HB0.out) (HT.out.moved HB0.out) HD.out hs)
  obtain ⟨b, hb⟩ : ∃ b, fmB ss fs ds = b := ⟨_, rfl⟩
  obtain ⟨L, hL⟩ : ∃ L, fmL ss fs ds = L := ⟨_, rfl⟩
  rw [hb, hL] at CM
  have HFB := Lib.hid hb; have HFL := Lib.hid hL
  clear hb hL
  refine CM.out.mono ?_
  rintro e w1 ⟨A, N, c, rfl, HN, hown, hb1⟩
  have HB1 := Lib.hid (HB0.out.trans (hb1.mono HB0.out.size))
  have HO1 := Lib.hid hown
  clear hb1 hown
  cases b
  case false =>
    have HNOB := Lib.hid (HNO.out HFB.out)
    go_wp2
    exact bodyPost_ret (v := .tuple #[.int .i64 0, .int .i64 0, .bool false]) (by simp [results, Try.results16, go_sem]) rfl (retP HNOB.out HB1.out)
  case true =>
  have HPL : Hid (planP ss fs ds) := Lib.hid (of_pb HFB.out)
  have HYS := Lib.hid (HYES.out HFB.out)
  have HLK : Hid (L = fmK ds fs.length) := Lib.hid (by rw [← HFL.out, (fm_yes HPL.out).1])
  have HNN : Hid (N = fs.length) := Lib.hid (by rw [HN.out, HLK.out, fm_len])
  have hnf : N ≤ 14 := by have := HPL.out.1.2.1; have := HNN.out; omega
  have HBLK : Hid (∀ t, t < ds.length → blkP (dn ds t).q0 (dn ds t).q1) := Lib.hid (fun t ht => (HPL.out.2.2.1 t ht).1.2.2)
  have HUS : Hid (∀ x : Int, usedK ds ds.length x < 2 ^ 24) := Lib.hid (fun x => used_lt (fun t ht => HBLK.out t ht))
  have HRD := Lib.hid (Rd.ofOwn HO1.out)
  go_wp2
  go_loopw [7, 8, 20] (fun u v i wr => ∃ (k s a : Nat), k ≤ N ∧ i = .int .i64 k ∧ u = .int .i64 s ∧ v = .int .i64 a ∧ Hid (s = puS ds k) ∧ Hid (a = puA ds k) ∧ s ≤ 24 * k ∧ a < 16777216 ∧ Below w1.heap.size w1 wr) (fun _ _ i _ => N - (intOf i).toNat)
  case atStart => exact ⟨0, 0, 0, Nat.zero_le _, rfl, rfl, rfl, Lib.hid rfl, Lib.hid rfl, by omega, by omega, Below.refl _ _⟩
  case round =>
    obtain ⟨k, s, a, hk, rfl, rfl, rfl, HS, HA, hs24, ha24, hb⟩ := hrel
    have HBW := Lib.hid (HB1.out.trans (hb.mono HB1.out.size))
    have HBR := Lib.hid hb
    clear hb
    by_cases hlt : k < N
    case neg =>
      have HE1 : Hid (puS ds fs.length = s) := Lib.hid (by rw [HS.out, show fs.length = k by have := HNN.out; omega])
      have HE2 : Hid (puA ds fs.length = a) := Lib.hid (by rw [HA.out, show fs.length = k by have := HNN.out; omega])
      have HRV : Hid ((.tuple #[.int .i64 (s : Int), .int .i64 (popN a 24 : Int), .bool true] : Value) = R) := Lib.hid (by rw [← HYS.out, HE1.out, HE2.out])
      have CC := Lib.hid (ones_ a wr (by omega))
      have hcv : IntKind.u64.wrap (a : Int) = (a : Int) := by rw [IntKind.wrap_u64]; omega
      obtain ⟨r, hr⟩ : ∃ r, (popN a 24 : Int) = r := ⟨_, rfl⟩
      rw [hr] at CC HRV
      clear hr
      go_wp2_with fail
      refine CC.out.mono ?_
      rintro e w' ⟨rfl, rfl⟩
      go_wp2
      exact bodyPost_ret (v := .tuple #[.int .i64 (s : Int), .int .i64 r, .bool true]) (by simp [results, Try.results16, go_sem]) rfl (retP HRV.out HBW.out)
    case pos =>
    obtain ⟨ad, hA, hbl, hc⟩ := ints_at (HRD.out.moved HBR.out) (k := k) (by have := HN.out; omega)
    subst hA
    have HUL := Lib.hid (HUS.out (k : Int))
    have HLV : Hid (L[k]'(by have := HN.out; omega) = (usedK ds ds.length (k : Int) : Int)) := Lib.hid (by
      have h1 := HLK.out; subst h1
      unfold fmK; simp)
    have HSN : Hid (puS ds (k + 1) = s + popN (usedK ds ds.length (k : Int)) 24) := Lib.hid (by rw [HS.out]; rfl)
    have HAN : Hid (puA ds (k + 1) = a ||| usedK ds ds.length (k : Int)) := Lib.hid (by rw [HA.out]; rfl)
    rw [HLV.out] at hc
    obtain ⟨u, hu⟩ : ∃ u, usedK ds ds.length (k : Int) = u := ⟨_, rfl⟩
    rw [hu] at HUL HSN HAN hc
    clear hu
    have hul := HUL.out
    have CC := Lib.hid (fun W => ones_ u W (by have := HUL.out; omega))
    have hp24 := popN_le u 24
    obtain ⟨p, hp⟩ : ∃ p, popN u 24 = p := ⟨_, rfl⟩
    rw [hp] at CC HSN hp24
    clear hp
    have hcv : IntKind.u64.wrap (u : Int) = (u : Int) := by rw [IntKind.wrap_u64]; omega
    have hsp : IntKind.i64.wrap ((s : Int) + (p : Int)) = ((s + p : Nat) : Int) := by rw [IntWalk.i64_in _ (by omega)]; omega
    have hor := or_i64_ a u (by omega) (by omega)
    have hol : a ||| u < 2 ^ 24 := Nat.or_lt_two_pow (by omega) HUL.out
    obtain ⟨o, ho⟩ : ∃ o, a ||| u = o := ⟨_, rfl⟩
    rw [ho] at hor hol HAN
    clear ho
    go_wp2_with fail
    refine (CC.out _).mono ?_
    rintro e w' ⟨rfl, rfl⟩
    go_wp2
    go_roundw
    case rel => exact ⟨k + 1, s + p, o, by omega, by go_num, rfl, rfl, Lib.hid HSN.out.symm, Lib.hid HAN.out.symm, by omega, by omega, HBR.out⟩
    case measure => simp [intOf]; omega
end Go.Proofs.Ytnbeomnlobfpfaa
