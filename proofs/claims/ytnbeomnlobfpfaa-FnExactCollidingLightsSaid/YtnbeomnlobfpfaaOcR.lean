/- impl.occupiedMasks over lights that are only read. No condition but those typed. -/
import Derived.Test.YtnbeomnlobfpfaaGD
import Derived.Maps.OwnOps
import Derived.Maps.Views
import Derived.Deep.DeepCutAuto
namespace Go.Proofs.Ytnbeomnlobfpfaa
open Go.ChangeShapes Go.WideShapes Go.ChangeAt Go.RowKit Go.Maps

set_option maxRecDepth 100000 in
set_option maxHeartbeats 8000000 in
theorem occupiedR_ {g n : Nat} {ys : List Lt} {ds : List LtD} {w : World} (hln : ys.length = n) (hrw : Rd w w.heap.size (some ⟨g, 0, none⟩) (ys.flatMap Lt.cells)) (hat : ∀ y ∈ ys, LtAt w y) (hd : ys.map Lt.d = ds) (hs : n ≤ 12) (hgood : ∀ t, t < ds.length → GoodD (dn ds t)) :
    Calls Try.prog 115 #[.slice (some ⟨g, 0, none⟩) n n] w (OccP ds w) := by
  have HTL := Lib.hid hln; have HTR := Lib.hid hrw; have HTA := Lib.hid hat; have HD := Lib.hid hd; have HG := Lib.hid hgood
  have HLD : Hid (ds.length = n) := Lib.hid (by rw [← hd, List.length_map]; exact hln)
  clear hln hrw hat hd hgood
  have hmm := @run_makeMap Try.prog
  go_enter Try.func115, Try.ntmps115
  go_wp2
  go_loopw [13] (fun i wr => ∃ (k cnt : Nat) (D : Du), k ≤ n ∧ i = .int .i64 k ∧ Hid (OwnM wr w.heap.size cnt D ∧ MapF D (usedK ds k)) ∧ cnt ≤ k * 1048576 ∧ Hid (∀ i j, j < i → i < k → ¬ colP (dn ds j) (dn ds i)) ∧ Below w.heap.size w wr) (fun i _ => n - (intOf i).toNat)
  case atStart => exact ⟨0, 0, _, Nat.zero_le _, rfl, Lib.hid ⟨World.ownsMap_made _ _ _ _, mapF_nil⟩, Nat.zero_le _, Lib.hid (fun i j _ hi => absurd hi (by omega)), (Below.refl _ _).alloc (Nat.le_refl _) _⟩
  case round =>
    clear hmm
    obtain ⟨k, cnt, D, hk, rfl, HM, hcnt, HC, hb⟩ := hrel
    have HBW := Lib.hid hb
    by_cases hlt : k < n
    case neg =>
      have hkn : k = n := by omega
      have HE : Hid (apartP ds ∧ MapF D (usedK ds ds.length)) := Lib.hid ⟨fun i j hji hi => HC.out i j hji (by have := HLD.out; omega), by rw [HLD.out, ← hkn]; exact HM.out.2⟩
      clear hkn
      go_wp2
      go_ret2
      exact ⟨hb, .inr ⟨HE.out.1, w.heap.size, cnt, D, rfl, Nat.le_refl _, HM.out.1, HE.out.2⟩⟩
    case pos =>
    have hkl : k < ys.length := by have := HTL.out; omega
    have HKD : Hid (k < ds.length) := Lib.hid (by have := HLD.out; omega)
    obtain ⟨y, hke⟩ : ∃ y, ys[k]'hkl = y := ⟨_, rfl⟩
    have HDK := Lib.hid (dn_at HD.out hkl hke)
    have hyat : LtAt w y := by rw [← hke]; exact HTA.out _ (List.getElem_mem hkl)
    obtain ⟨hg, f0, f1, f2, f3, f4⟩ := (HTR.out.moved hb).ltc hkl
    rw [Nat.zero_add, hke] at f0 f1 f2 f3 f4
    have HGD := Lib.hid (HG.out k HKD.out)
    have HBK : Hid (bitsV y.q0 y.q1 = (bitN (dn ds k) : Int)) := Lib.hid (by rw [HDK.out]; exact bitN_eq (d := y.d) (by have := HGD.out.blk; rw [HDK.out] at this; exact this))
    have HBL := Lib.hid (bitN_lt HGD.out.blk)
    have HZ : Hid (y.zs = (dn ds k).zs) := Lib.hid (by rw [HDK.out]; rfl)
    have hblk : blkP y.q0 y.q1 := by have := HGD.out.blk; rw [HDK.out] at this; exact this
    obtain ⟨hyn, hys, hyr⟩ := hyat
    have HYN := Lib.hid hyn; have HYR := Lib.hid hyr
    have CB : Hid (∀ W, Calls Try.prog 165 #[.agg #[.int .i64 y.q0, .int .i64 y.q1]] W (RetP (.int .i64 (bitN (dn ds k) : Int)) W)) := Lib.hid (fun W => by rw [← HBK.out]; exact implBits y.q0 y.q1 W hblk)
    obtain ⟨b, hbb⟩ : ∃ b, bitN (dn ds k) = b := ⟨_, rfl⟩
    rw [hbb] at CB HBL
    have HBB := Lib.hid hbb
    obtain ⟨p0, p1, A, m, c, zs, q0, q1⟩ := y
    simp only at f0 f1 f2 f3 f4 hyn hys hyr HYN HYR HZ CB
    have HBX := Lib.hid (hb.alloc hb.size (Obj.cells #[.int .i64 p0, .int .i64 p1, .slice A m c, .int .i64 q0, .int .i64 q1] 88))
    have HBZ := Lib.hid ((Below.refl wr.heap.size wr).alloc (Nat.le_refl _) (Obj.cells #[.int .i64 p0, .int .i64 p1, .slice A m c, .int .i64 q0, .int .i64 q1] 88))
    clear hb hke hyn hyr hbb hblk
    go_wp2_with fail
    obtain ⟨X, hX⟩ : ∃ X, wr.alloc (Obj.cells #[.int .i64 p0, .int .i64 p1, .slice A m c, .int .i64 q0, .int .i64 q1] 88) = X := ⟨_, rfl⟩
    have hx2 : X.cell? ⟨wr.heap.size, 2, none⟩ = some (.slice A m c) := by rw [← hX]; simp [go_sem]
    have hzx : wr.heap.size < X.heap.size := by rw [← hX]; simp
    rw [hX] at HBX HBZ ⊢
    clear hX f0 f1 f2 f3 f4
    refine (CB.out _).mono ?_
    rintro e w3 ⟨rfl, hb3⟩
    have HB3 := Lib.hid (HBX.out.trans (hb3.mono HBX.out.size))
    have HM3 := Lib.hid (HM.out.1.below (HBZ.out.trans (hb3.mono HBZ.out.size)))
    have hx3 := (hb3.cell (p := ⟨wr.heap.size, 2, none⟩) hzx).trans hx2
    clear hb3 hx2 hzx
    go_wp2
    clear hx3
    go_loopw [24] (fun i wr => ∃ (j cn : Nat) (D : Du), j ≤ m ∧ i = .int .i64 j ∧ Hid (OwnM wr w.heap.size cn D ∧ MapF D (partK ds k j)) ∧ cn ≤ k * 1048576 + j ∧ Hid (∀ t, t < k → ∀ x ∈ zs.take j, x ∈ (dn ds t).zs → bitN (dn ds t) &&& b = 0) ∧ Below w.heap.size w wr) (fun i _ => m - (intOf i).toNat)
    case atStart => exact ⟨0, cnt, D, Nat.zero_le _, rfl, Lib.hid ⟨HM3.out, fun x => by rw [part_zero]; exact HM.out.2 x⟩, Nat.le_trans hcnt (Nat.le_add_right _ _), Lib.hid (fun t _ x hx => by simp at hx), HB3.out⟩
    case round =>
      obtain ⟨j, cn, D2, hj, rfl, HM2, hcn, HX, hb⟩ := hrel
      have HR2 := Lib.hid (HYR.out.moved hb)
      have HBJ := Lib.hid hb
      by_cases hjl : j < m
      case neg =>
        have hjm : j = m := by omega
        have HC2 : Hid (∀ i j, j < i → i < k + 1 → ¬ colP (dn ds j) (dn ds i)) := Lib.hid (fun i t hti hi => by
          by_cases h : i < k
          · exact HC.out i t hti h
          · obtain rfl : i = k := by omega
            intro hc
            obtain ⟨x, hx1, hx2⟩ := uses_iff.1 hc.1
            refine hc.2 ?_
            rw [HBB.out]
            refine HX.out t hti x ?_ hx1
            rw [List.take_of_length_le (by have := HYN.out; omega), HZ.out]
            exact hx2)
        have HMU : Hid (MapF D2 (usedK ds (k + 1))) := Lib.hid (fun x => by
          have h1 := HM2.out.2 x
          rw [hjm, ← HYN.out, HZ.out, part_all] at h1
          exact h1)
        have hcn2 : cn ≤ (k + 1) * 1048576 := by omega
        clear hjm hb
        go_wp2
        go_roundw
        case rel => exact ⟨k + 1, cn, D2, by omega, by go_num, Lib.hid ⟨HM2.out.1, HMU.out⟩, hcn2, HC2, HBJ.out⟩
        case measure => simp [intOf]; omega
      case pos =>
      have hjz : j < zs.length := by have := HYN.out; omega
      obtain ⟨ad, hA, hbl, hcell⟩ := ints_at HR2.out hjz
      subst hA
      obtain ⟨x, hx⟩ : ∃ x, zs[j]'hjz = x := ⟨_, rfl⟩
      rw [hx] at hcell
      have hjd : j < (dn ds k).zs.length := by rw [← HZ.out]; exact hjz
      have HXD : Hid ((dn ds k).zs[j]'hjd = x) := Lib.hid (by rw [← hx]; congr 1; exact HZ.out.symm)
      have hxin : x ∈ (dn ds k).zs := by rw [← HXD.out]; exact List.getElem_mem hjd
      have hxf := HGD.out.fib x hxin
      have hkey : keyOf Try.prog 3 (.int .i64 x) = some (.int .i64 x) := keyOf_int_mk Try.underlying3 (WalkArith.wf_i64 (by omega))
      have HKEY := Lib.hid hkey
      have hpn : partK ds k j x = usedK ds k x := by rw [← HXD.out]; exact part_new hjd HGD.out.nd
      have hps : partK ds k (j + 1) x = usedK ds k x ||| b := by rw [← HXD.out, ← HBB.out]; exact part_same hjd HGD.out.nd
      have hpo : ∀ y, y ≠ x → partK ds k (j + 1) y = partK ds k j y := fun y hy => part_other hjd (by rw [HXD.out]; exact hy)
      have hul : usedK ds k x < 2 ^ 24 := used_lt (fun t ht => (HG.out t (by have := HKD.out; omega)).blk)
      have hua := used_and (ds := ds) (x := x) (b := b) (k := k)
      have HPS := Lib.hid hps; have HPO := Lib.hid hpo
      obtain ⟨u, hu⟩ : ∃ u, usedK ds k x = u := ⟨_, rfl⟩
      rw [hu] at hpn hul hua HPS
      have HVAL : Hid (∀ c : Int, D2.atKey (.int .i64 x) (.lit (.int .i64 0)) = .lit (.int .i64 c) → c = (u : Int)) := Lib.hid (fun c hat => by rw [HM2.out.2.val hat, hpn])
      have hand := and_i64n u b hul HBL.out
      have hor := or_i64_ u b (by omega) (by have := HBL.out; omega)
      have hol : u ||| b < 2 ^ 24 := Nat.or_lt_two_pow hul HBL.out
      obtain ⟨v, hv⟩ : ∃ v, u &&& b = v := ⟨_, rfl⟩
      obtain ⟨o, ho⟩ : ∃ o, u ||| b = o := ⟨_, rfl⟩
      rw [hv] at hand hua; rw [ho] at hor hol HPS
      have HUA := Lib.hid hua
      have hown := HM2.out.1
      have hwo : (Lit.int .i64 (o : Int)).wf = true := WalkArith.wf_i64 (by omega)
      have HXX2 := Lib.hid hx
      have HIN := Lib.hid hxin
      clear HXD hx hjd hxin hpn hps hpo hul hua hu hv ho hkey hb
      by_cases hv0 : v = 0
      case neg =>
        have HE : Hid (¬ apartP ds) := Lib.hid (fun hap => by
          apply hv0
          refine HUA.out.2 (fun t ht hxt => ?_)
          have hnc := hap k t ht HKD.out
          refine Classical.byContradiction fun h0 => hnc ⟨uses_iff.2 ⟨x, hxt, HIN.out⟩, by rw [HBB.out]; exact h0⟩)
        have hvi : (v : Int) ≠ 0 := by omega
        have hvb : ((v : Int) != 0) = true := by simpa using hvi
        have hvc : ((v : Int) == 0) = false := by simpa using hvi
        clear hv0 hvi
        go_wp2_with (first
          | (at_lookup; refine wpList_lookup_own_int _ rfl _ _ 166 rfl 3 3 .i64 law_int Try.underlying166 Try.underlying3 (zero_int _) w.heap.size cn _ rfl hown _ _ rfl HKEY.out ?_; intro c hat hwc; obtain rfl := HVAL.out c hat; clear hat hwc)
          | go_in)
        go_ret2
        exact ⟨HBJ.out, .inl ⟨HE.out, rfl⟩⟩
      case pos =>
      subst hv0
      have HX2 : Hid (∀ t, t < k → ∀ x ∈ zs.take (j + 1), x ∈ (dn ds t).zs → bitN (dn ds t) &&& b = 0) := Lib.hid (fun t ht x' hx' hxt => by
        rw [List.take_succ_eq_append_getElem hjz, HXX2.out] at hx'
        rcases List.mem_append.1 hx' with h | h
        · exact HX.out t ht x' h hxt
        · rw [List.mem_singleton.1 h] at hxt
          exact HUA.out.1 rfl t ht hxt)
      have HPUT : Hid (MapF (D2.put (.int .i64 x) (.lit (.int .i64 (o : Int)))) (partK ds k (j + 1))) := Lib.hid (HM2.out.2.put hown.isMap x o HPS.out HPO.out)
      go_wp2_with (first
        | (at_lookup; refine wpList_lookup_own_int _ rfl _ _ 166 rfl 3 3 .i64 law_int Try.underlying166 Try.underlying3 (zero_int _) w.heap.size cn _ rfl hown _ _ rfl HKEY.out ?_; intro c hat hwc; obtain rfl := HVAL.out c hat; clear hat hwc)
        | (at_mapUpdate; refine wpList_mapUpdate_own _ rfl _ _ _ 166 rfl 3 3 law_int Try.underlying166 _ w.heap.size cn _ rfl hown (by unfold maxLen; omega) _ _ _ rfl rfl HKEY.out _ [] (plainElem_int Try.underlying3 hwo) ?_; intro w1 hown1 hgrow1)
        | go_in)
      have HB1 := Lib.hid (HBJ.out.grown hgrow1 HBJ.out.size (fun q hq => by cases hq; exact Nat.le_refl _))
      have HOW := Lib.hid hown1
      clear hown1 hgrow1 hown
      go_roundw
      case rel => exact ⟨j + 1, cn + 1, _, by omega, by go_num, Lib.hid ⟨HOW.out, HPUT.out⟩, by omega, HX2, HB1.out⟩
      case measure => simp [intOf]; omega
end Go.Proofs.Ytnbeomnlobfpfaa
