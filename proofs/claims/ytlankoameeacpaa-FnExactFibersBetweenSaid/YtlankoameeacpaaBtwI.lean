/- Contract: impl.FibersBetween answers the plain list and word. No condition but those typed. -/
import Derived.Test.YtlankoameeacpaaBtw
namespace Go.Proofs.Ytlankoameeacpaa
open Go.ChangeShapes Go.WideShapes Go.ChangeAt Go.RowKit

set_option maxRecDepth 100000 in
set_option maxHeartbeats 4000000 in
theorem implBtw {g1 g2 n1 n2 c1 c2 : Nat} {ss : List ByteArray} {fs : List Q4} {w : World} (h : NetAt g1 g2 n1 n2 c1 c2 ss fs w) (A : Option Addr) (n c : Nat) (zs : List Int) (hn : zs.length = n) (hs : n ≤ 1048576) (hr : Rd w w.heap.size A (zs.map (Value.int .i64))) :
    Calls Try.prog 40 #[.agg #[.slice (some ⟨g1, 0, none⟩) n1 c1, .slice (some ⟨g2, 0, none⟩) n2 c2], .slice A n c] w (IntsP (btL ss fs zs) (btB ss fs zs) w) := by
  have hl1 := h.ln1
  have hl2 := h.ln2
  have hsm1 := h.sm1
  have HN := Lib.hid h; clear h
  have HR := Lib.hid hr; clear hr
  have HLN := Lib.hid hn; clear hn
  by_cases hp : netP ss fs
  case neg =>
    have HB : Hid (pb (netP ss fs) = false) := Lib.hid (pb_false hp)
    obtain ⟨e1, e2⟩ := bt_no (zs := zs) fun h => hp h.1
    rw [e1, e2]
    clear e1 e2 hp hl1 hl2
    go_enter Try.func40, Try.ntmps40
    go_wp2_with fail
    obtain ⟨W0, hW0⟩ : ∃ W0, (w.alloc (Obj.cells #[.slice (some ⟨g1, 0, none⟩) n1 c1, .slice (some ⟨g2, 0, none⟩) n2 c2] 42)) = W0 := ⟨_, rfl⟩
    have hk0 : W0.cell? ⟨w.heap.size, 0, none⟩ = some (.slice (some ⟨g1, 0, none⟩) n1 c1) := by rw [← hW0]; simp [go_sem]
    have hk1 : W0.cell? ⟨w.heap.size, 1, none⟩ = some (.slice (some ⟨g2, 0, none⟩) n2 c2) := by rw [← hW0]; simp [go_sem]
    have hz0 : w.heap.size < W0.heap.size := by rw [← hW0]; simp; try omega
    have HB0 := Lib.hid ((Below.refl w.heap.size w).alloc (Nat.le_refl _) (Obj.cells #[.slice (some ⟨g1, 0, none⟩) n1 c1, .slice (some ⟨g2, 0, none⟩) n2 c2] 42))
    rw [hW0] at HB0 ⊢
    clear hW0
    have HN0 := Lib.hid (HN.out.moved HB0.out)
    refine (implNet_ HN0.out).mono ?_
    rintro e w1 ⟨rfl, hb1⟩
    rw [HB.out]
    have k0 := (hb1.cell (p := ⟨w.heap.size, 0, none⟩) hz0).trans hk0
    have k1 := (hb1.cell (p := ⟨w.heap.size, 1, none⟩) hz0).trans hk1
    have hbx : w.heap.size < w1.heap.size := Nat.lt_of_lt_of_le hz0 hb1.size
    have HN1 := Lib.hid (HN0.out.moved hb1)
    have hB1 := Lib.hid (HB0.out.trans (hb1.mono HB0.out.size))
    clear hk0 hk1 hz0 hb1 HN0 HB0
    go_wp2
    go_ret2
    exact ⟨none, 0, 0, rfl, Lib.hid rfl, World.ownsRow_nil _ _ _ _, hB1.out⟩
  case pos =>
  have HB : Hid (pb (netP ss fs) = true) := Lib.hid (pb_true hp)
  have HP := Lib.hid hp
  have hn14 : n2 ≤ 14 := by have := hp.2.1; omega
  have hn18 : n1 ≤ 8 := by have := hp.1; omega
  have CS : Hid (∀ W : World, Below w.heap.size w W → Calls Try.prog 78 #[.slice A n c, .int .i64 (n1 : Int)] W fun e w' => e = .returned (.bool (risB zs ss.length)) ∧ W = w') := Lib.hid fun W hb => by
    have := isSet_ A n c zs (n1 : Int) W HLN.out hs (HR.out.moved hb)
    rw [← hl1] at this ⊢
    exact this
  cases hris : risB zs ss.length
  case false =>
    rw [hris] at CS
    obtain ⟨e1, e2⟩ := bt_no (ss := ss) (fs := fs) (zs := zs) fun h => by rw [h.2] at hris; cases hris
    rw [e1, e2]
    clear e1 e2 hp hl1 hl2 hris
    go_enter Try.func40, Try.ntmps40
    go_wp2_with fail
    obtain ⟨W0, hW0⟩ : ∃ W0, (w.alloc (Obj.cells #[.slice (some ⟨g1, 0, none⟩) n1 c1, .slice (some ⟨g2, 0, none⟩) n2 c2] 42)) = W0 := ⟨_, rfl⟩
    have hk0 : W0.cell? ⟨w.heap.size, 0, none⟩ = some (.slice (some ⟨g1, 0, none⟩) n1 c1) := by rw [← hW0]; simp [go_sem]
    have hk1 : W0.cell? ⟨w.heap.size, 1, none⟩ = some (.slice (some ⟨g2, 0, none⟩) n2 c2) := by rw [← hW0]; simp [go_sem]
    have hz0 : w.heap.size < W0.heap.size := by rw [← hW0]; simp; try omega
    have HB0 := Lib.hid ((Below.refl w.heap.size w).alloc (Nat.le_refl _) (Obj.cells #[.slice (some ⟨g1, 0, none⟩) n1 c1, .slice (some ⟨g2, 0, none⟩) n2 c2] 42))
    rw [hW0] at HB0 ⊢
    clear hW0
    have HN0 := Lib.hid (HN.out.moved HB0.out)
    refine (implNet_ HN0.out).mono ?_
    rintro e w1 ⟨rfl, hb1⟩
    rw [HB.out]
    have k0 := (hb1.cell (p := ⟨w.heap.size, 0, none⟩) hz0).trans hk0
    have k1 := (hb1.cell (p := ⟨w.heap.size, 1, none⟩) hz0).trans hk1
    have hbx : w.heap.size < w1.heap.size := Nat.lt_of_lt_of_le hz0 hb1.size
    have HN1 := Lib.hid (HN0.out.moved hb1)
    have hB1 := Lib.hid (HB0.out.trans (hb1.mono HB0.out.size))
    clear hk0 hk1 hz0 hb1 HN0 HB0
    go_wp2_with fail
    refine (CS.out _ hB1.out).mono ?_
    rintro e w2 ⟨rfl, rfl⟩
    go_wp2
    go_ret2
    exact ⟨none, 0, 0, rfl, Lib.hid rfl, World.ownsRow_nil _ _ _ _, hB1.out⟩
  case true =>
  rw [hris] at CS
  obtain ⟨e1, e2⟩ := bt_yes (ss := ss) (fs := fs) (zs := zs) ⟨hp, hris⟩
  rw [e1, e2]
  have HL2 := Lib.hid hl2
  have hall := ris_all hris
  have HA : Hid (∀ k, k < n → 0 ≤ nth zs k ∧ nth zs k < 20) := Lib.hid fun k hk => by have := hall k (by have := HLN.out; omega); have := hl1; omega
  have CM := Lib.hid (fun (W : World) (hb : Below w.heap.size w W) => maskOf_ A n c zs W HLN.out hs (HR.out.moved hb) HA.out)
  have HML := Lib.hid (mask_lt HA.out)
  have HMB := Lib.hid (fun a => mask_bit (a := a) HLN.out HA.out HML.out)
  obtain ⟨m, hm⟩ : ∃ m, maskN zs n = m := ⟨_, rfl⟩
  rw [hm] at CM HML HMB
  have hm20 : m < 2 ^ 20 := HML.out
  obtain ⟨i0, hi, hz0_, hz1_, hz2_⟩ := info_parts Try.inf_int
  have HI := Lib.hid hi; have HZ0 := Lib.hid hz0_; have HZ1 := Lib.hid hz1_; have HZ2 := Lib.hid hz2_
  have HL1 := Lib.hid hl1
  clear e1 e2 hp hl1 hl2 hris hi hz0_ hz1_ hz2_ hall hm HML
  go_enter Try.func40, Try.ntmps40
  go_wp2_with fail
  obtain ⟨W0, hW0⟩ : ∃ W0, (w.alloc (Obj.cells #[.slice (some ⟨g1, 0, none⟩) n1 c1, .slice (some ⟨g2, 0, none⟩) n2 c2] 42)) = W0 := ⟨_, rfl⟩
  have hk0 : W0.cell? ⟨w.heap.size, 0, none⟩ = some (.slice (some ⟨g1, 0, none⟩) n1 c1) := by rw [← hW0]; simp [go_sem]
  have hk1 : W0.cell? ⟨w.heap.size, 1, none⟩ = some (.slice (some ⟨g2, 0, none⟩) n2 c2) := by rw [← hW0]; simp [go_sem]
  have hz0 : w.heap.size < W0.heap.size := by rw [← hW0]; simp; try omega
  have HB0 := Lib.hid ((Below.refl w.heap.size w).alloc (Nat.le_refl _) (Obj.cells #[.slice (some ⟨g1, 0, none⟩) n1 c1, .slice (some ⟨g2, 0, none⟩) n2 c2] 42))
  rw [hW0] at HB0 ⊢
  clear hW0
  have HN0 := Lib.hid (HN.out.moved HB0.out)
  refine (implNet_ HN0.out).mono ?_
  rintro e w1 ⟨rfl, hb1⟩
  rw [HB.out]
  have k0 := (hb1.cell (p := ⟨w.heap.size, 0, none⟩) hz0).trans hk0
  have k1 := (hb1.cell (p := ⟨w.heap.size, 1, none⟩) hz0).trans hk1
  have hbx : w.heap.size < w1.heap.size := Nat.lt_of_lt_of_le hz0 hb1.size
  have HN1 := Lib.hid (HN0.out.moved hb1)
  have hB1 := Lib.hid (HB0.out.trans (hb1.mono HB0.out.size))
  clear hk0 hk1 hz0 hb1 HN0 HB0
  go_wp2_with fail
  refine (CS.out _ hB1.out).mono ?_
  rintro e w2 ⟨rfl, rfl⟩
  go_wp2_with fail
  refine (CM.out _ hB1.out).mono ?_
  rintro e w2 ⟨rfl, rfl⟩
  go_wp2
  clear k0 k1
  go_loopw [7, 26] (fun v i wr => ∃ (k : Nat) (A : Option Addr) (N c : Nat), k ≤ n2 ∧ i = .int .i64 k ∧ v = .slice A N c ∧ Hid (N = (btK fs zs k).length) ∧ Hid (wr.ownsRow (w.heap.size + 1) 3 1 (.slice A N c) N ((btK fs zs k).map (Value.int .i64))) ∧ Below (w.heap.size + 1) w1 wr) (fun _ i _ => n2 - (intOf i).toNat)
  case atStart => exact ⟨0, none, 0, 0, Nat.zero_le _, rfl, rfl, Lib.hid rfl, Lib.hid (World.ownsRow_nil _ _ _ _), Below.refl _ _⟩
  case round =>
    obtain ⟨k, A', N, c', hk, rfl, rfl, HNN, HOW, hb⟩ := hrel
    have hN : N ≤ 14 := by have := HNN.out; have := btK_len fs zs k; omega
    have hsz0 := hb.size
    have hBs : w.heap.size + 1 ≤ wr.heap.size := by omega
    by_cases hlt : k < n2
    · have hks : k < fs.length := by have := HL2.out; omega
      obtain ⟨⟨a, b, p, d⟩, hq⟩ : ∃ q, fs[k]'hks = q := ⟨_, rfl⟩
      have hstep := btK_step fs zs k _ hks hq
      have hfp := (HP.out.2.2.2 k hks hks).1
      rw [hq] at hfp
      have hrr := (HN.out.rd2.over (hB1.out.trans (hb.mono (Nat.le_succ _)))).q4c hks
      rw [Nat.zero_add, hq] at hrr
      obtain ⟨hg, f0, f1, f2, f3⟩ := hrr
      simp only at f0 f1 f2 f3
      unfold acr at hstep
      simp only at hstep
      unfold fibP at hfp
      simp only at hfp
      obtain ⟨a', rfl⟩ : ∃ x : Nat, a = (x : Int) := ⟨a.toNat, by omega⟩
      obtain ⟨b', rfl⟩ : ∃ x : Nat, b = (x : Int) := ⟨b.toNat, by omega⟩
      have ha64 : a' < 64 := by have := HL1.out; omega
      have hb64 : b' < 64 := by have := HL1.out; omega
      have hne := bit_ne (HMB.out a') (HMB.out b')
      clear hq hfp
      cases huv : (decide ((a' : Int) ∈ zs) != decide ((b' : Int) ∈ zs))
      case true =>
        rw [huv] at hne
        rw [huv, if_pos rfl] at hstep
        have HST := Lib.hid hstep
        clear hstep huv
        go_wp2_with fail
        go_quiet (fail)
        go_wp2_with (at_builtin; refine wpList_append_own _ rfl _ _ 55 rfl (w.heap.size + 1) 3 i0 (.int .i64 0) 1 8 Try.underlying55 HI.out HZ0.out HZ1.out HZ2.out rfl (by decide) _ N _ rfl ((ownDr (HOW.out.alloc _) _).alloc _) ⟨wr.heap.size + 1, 0, none⟩ 1 1 [.int .i64 (k : Int)] rfl rfl (new_one1 _ _ _ _ (by simp)) (new_int _) (by unfold maxLen; omega) (by omega) (by simp; omega) ?_)
        intro v1 w3 hown1 hgrow1 _
        have hB3 : Below (w.heap.size + 1) w1 w3 := ((drewN_below_ (hb.alloc hBs _) _).alloc (by simp; omega) _).grown hgrow1 (by simp; omega) (fun g hg => (HOW.out.lt g hg).1)
        obtain ⟨N1, hN1⟩ : ∃ N1, N + 1 = N1 := ⟨_, rfl⟩
        rw [hN1] at hown1
        obtain ⟨A1, c1', rfl⟩ := formOf hown1
        have hxs : (btK fs zs k).map (Value.int .i64) ++ [.int .i64 (k : Int)] = (btK fs zs (k + 1)).map (Value.int .i64) := by rw [HST.out, List.map_append]; rfl
        rw [hxs] at hown1
        have HOW1 := Lib.hid hown1
        have HN1' : Hid (N1 = (btK fs zs (k + 1)).length) := Lib.hid (by rw [HST.out, List.length_append, ← HNN.out, ← hN1]; rfl)
        clear hxs hown1 hN1 hgrow1
        go_wp2
        go_roundw
        case rel => exact ⟨k + 1, A1, N1, c1', by omega, by go_num, rfl, HN1', HOW1, hB3⟩
        case measure => simp [intOf]; omega
      case false =>
        rw [huv] at hne
        rw [huv, if_neg Bool.false_ne_true, List.append_nil] at hstep
        have HN1' : Hid (N = (btK fs zs (k + 1)).length) := Lib.hid (by rw [hstep]; exact HNN.out)
        have HOW1 : Hid (wr.ownsRow (w.heap.size + 1) 3 1 (.slice A' N c') N ((btK fs zs (k + 1)).map (Value.int .i64))) := Lib.hid (by rw [hstep]; exact HOW.out)
        clear hstep huv
        go_wp2_with fail
        go_quiet (fail)
        go_wp2
        go_roundw
        case rel => exact ⟨k + 1, A', N, c', by omega, by go_num, rfl, HN1', Lib.hid (ownDr (HOW1.out.alloc _) _), drewN_below_ (hb.alloc hBs _) _⟩
        case measure => simp [intOf]; omega
    · have hkn : k = n2 := by omega
      have hkl : k = fs.length := by have := HL2.out; omega
      have HNF : Hid (N = (btK fs zs fs.length).length) := Lib.hid (by rw [← hkl]; exact HNN.out)
      have HOF : Hid (wr.ownsRow (w.heap.size + 1) 3 1 (.slice A' N c') N ((btK fs zs fs.length).map (Value.int .i64))) := Lib.hid (by rw [← hkl]; exact HOW.out)
      subst hkn
      clear hlt hkl
      go_wp2
      go_ret2
      exact ⟨A', N, c', rfl, HNF, own_base HOF.out (Nat.le_succ _), hB1.out.trans (hb.mono (Nat.le_succ _))⟩
end Go.Proofs.Ytlankoameeacpaa
