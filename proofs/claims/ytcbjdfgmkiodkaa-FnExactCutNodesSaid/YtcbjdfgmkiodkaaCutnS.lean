/- Cut nodes: contract of the specification. No condition but those typed. -/
import Derived.Test.YtcbjdfgmkiodkaaCutn
namespace Go.Proofs.Ytcbjdfgmkiodkaa
open Go.ChangeShapes Go.WideShapes Go.ChangeAt Go.RowKit

set_option maxRecDepth 100000 in
set_option maxHeartbeats 8000000 in
theorem specCN {g1 g2 n1 n2 c1 c2 : Nat} {ss : List ByteArray} {fs : List Q4} {w : World} (h : NetAt g1 g2 n1 n2 c1 c2 ss fs w) :
    Calls Try.prog 59 #[.agg #[.slice (some ⟨g1, 0, none⟩) n1 c1, .slice (some ⟨g2, 0, none⟩) n2 c2]] w (IntsP (selV (netP ss fs) (cutQ n1 fs) n1) (pb (netP ss fs)) w) := by
  have HNT := Lib.hid h
  have HL2 := Lib.hid h.ln2
  have hs2 := h.sm2
  clear h
  have HL1 := Lib.hid HNT.out.ln1
  obtain ⟨RL, hRL⟩ : ∃ r, selV (netP ss fs) (cutQ n1 fs) n1 = r := ⟨_, rfl⟩
  obtain ⟨RB, hRB⟩ : ∃ r, pb (netP ss fs) = r := ⟨_, rfl⟩
  have HNO : Hid (¬ netP ss fs → RL = [] ∧ RB = false) := Lib.hid (fun e => by rw [← hRL, ← hRB]; exact selV_no e)
  have HYES : Hid (netP ss fs → RL = selK (cutQ n1 fs) n1 ∧ RB = true) := Lib.hid (fun e => by rw [← hRL, ← hRB]; exact selV_yes e)
  rw [hRL, hRB]
  clear hRL
  go_enter Try.func59, Try.ntmps59
  go_wp2_with fail
  obtain ⟨W0, hW0⟩ : ∃ W0, (w.alloc (Obj.cells #[.slice (some ⟨g1, 0, none⟩) n1 c1, .slice (some ⟨g2, 0, none⟩) n2 c2] 32)).alloc (Obj.cells #[] 3) = W0 := ⟨_, rfl⟩
  have hb0 : Below w.heap.size w W0 := by rw [← hW0]; exact ((Below.refl _ _).alloc (Nat.le_refl _) _).alloc (by simp) _
  have hk0 : W0.cell? ⟨w.heap.size, 0, none⟩ = some (.slice (some ⟨g1, 0, none⟩) n1 c1) := by rw [← hW0]; simp [go_sem]
  have hk1 : W0.cell? ⟨w.heap.size, 1, none⟩ = some (.slice (some ⟨g2, 0, none⟩) n2 c2) := by rw [← hW0]; simp [go_sem]
  have hz0 : w.heap.size + 1 < W0.heap.size := by rw [← hW0]; simp
  have HB0 := Lib.hid hb0; have HK0 := Lib.hid hk0; have HK1 := Lib.hid hk1; have HZB := Lib.hid hz0
  have HO0 : Hid (W0.ownsRow (w.heap.size + 1) 3 1 (.slice (some ⟨w.heap.size + 1, 0, none⟩) 0 0) 0 []) := Lib.hid (by
    rw [← hW0]
    have h9 := World.ownsRow_lit (base := w.heap.size + 1) (e := 3) (size := 1) (w.alloc (Obj.cells #[.slice (some ⟨g1, 0, none⟩) n1 c1, .slice (some ⟨g2, 0, none⟩) n2 c2] 32)) #[] 0 (by simp) (by unfold maxLen; omega) rfl
    simpa using h9)
  rw [hW0]
  clear hW0 hb0
  clear hk0 hk1 hz0
  refine (specNet_ (HNT.out.moved HB0.out)).mono ?_
  rw [hRB]
  rintro e w1 ⟨rfl, hb1⟩
  have HB1 := Lib.hid (HB0.out.trans (hb1.mono HB0.out.size))
  have HO1 := Lib.hid (ownB HO0.out hb1)
  have HK0b := Lib.hid ((hb1.cell (p := ⟨w.heap.size, 0, none⟩) (by show w.heap.size < _; have := HZB.out; omega)).trans HK0.out)
  have HK1b := Lib.hid ((hb1.cell (p := ⟨w.heap.size, 1, none⟩) (by show w.heap.size < _; have := HZB.out; omega)).trans HK1.out)
  have HZ1 : Hid (w.heap.size + 1 < w1.heap.size) := Lib.hid (by have := HZB.out; have := hb1.size; omega)
  clear hb1
  cases RB
  case false =>
    have HE := Lib.hid (HNO.out (of_npb hRB))
    clear hRB
    go_wp2
    go_ret2
    obtain ⟨rfl, _⟩ := HE.out
    exact ⟨_, 0, _, rfl, Lib.hid rfl, own_base HO1.out (by omega), HB1.out⟩
  case true =>
  have hv := of_pb hRB
  have HV := Lib.hid hv
  have HE := Lib.hid (HYES.out hv)
  have hn8 : n1 ≤ 8 := by have := hv.1; have := HL1.out; omega
  clear hRB hv
  go_wp2
  go_loopw [4, 5] (fun v i wr => ∃ (k : Nat) (A1 : Option Addr) (N1 d1 : Nat), k ≤ n1 ∧ i = .int .i64 k ∧ v = .slice A1 N1 d1 ∧ N1 ≤ k ∧ Hid (N1 = (selK (cutQ n1 fs) k).length) ∧ Hid (wr.ownsRow (w.heap.size + 1) 3 1 (.slice A1 N1 d1) N1 ((selK (cutQ n1 fs) k).map (Value.int .i64))) ∧ Below (w.heap.size + 1) w1 wr) (fun _ i _ => n1 - (intOf i).toNat)
  case atStart => exact ⟨0, _, 0, _, Nat.zero_le _, rfl, rfl, Nat.le_refl _, Lib.hid rfl, HO1, Below.refl _ _⟩
  case round =>
    obtain ⟨k, A1, N1, d1, hk, rfl, rfl, hNk, HN1, HOW, hb⟩ := hrel
    have HBR := Lib.hid hb
    have HBW := Lib.hid (HB1.out.trans (hb.mono (by omega)))
    have HSZ : Hid (w.heap.size + 1 ≤ wr.heap.size) := Lib.hid (by have := hb.size; have := HZ1.out; omega)
    have l0 := (hb.cell (p := ⟨w.heap.size, 0, none⟩) (by show w.heap.size < _; omega)).trans HK0b.out
    have l1 := (hb.cell (p := ⟨w.heap.size, 1, none⟩) (by show w.heap.size < _; omega)).trans HK1b.out
    have hg0 : w.heap.size < wr.heap.size := by have := HSZ.out; omega
    clear hb
    by_cases hlt : k < n1
    case neg =>
      have HF : Hid (RL = selK (cutQ n1 fs) k) := Lib.hid (by rw [HE.out.1, show n1 = k by omega])
      go_wp2
      go_ret2
      rw [HF.out]
      exact ⟨A1, N1, d1, rfl, HN1, own_base HOW.out (by omega), HBW.out⟩
    case pos =>
    have CAT : Hid (Calls Try.prog 147 #[.agg #[.slice (some ⟨g1, 0, none⟩) n1 c1, .slice (some ⟨g2, 0, none⟩) n2 c2], .int .i64 (k : Int)] wr (IntsP (atK fs (k : Int) fs.length) true wr)) := Lib.hid (by
      have h9 := specAt (HNT.out.moved HBW.out) (k : Int)
      obtain ⟨e1, e2⟩ := at_yes (ss := ss) (fs := fs) (x := (k : Int)) ⟨HV.out, by omega, by have := HL1.out; omega⟩
      rw [e1, e2] at h9
      exact h9)
    have HBDA := Lib.hid (at_bd HV.out (k : Int))
    have hg20 : atN fs (k : Int) < 2 ^ 20 := maskU_lt HBDA.out
    have HALEN := Lib.hid (atK_len fs (k : Int) fs.length)
    have HGN : Hid (atN fs (k : Int) = maskN (atK fs (k : Int) fs.length) (atK fs (k : Int) fs.length).length) := Lib.hid rfl
    have HQ : Hid (cutQ n1 fs k = pb (splP n1 fs (atN fs (k : Int)) (k : Int))) := Lib.hid rfl
    obtain ⟨al, hal⟩ : ∃ al, atK fs (k : Int) fs.length = al := ⟨_, rfl⟩
    obtain ⟨g, hg⟩ : ∃ g, atN fs (k : Int) = g := ⟨_, rfl⟩
    rw [hal] at CAT HBDA HALEN HGN
    rw [hg] at hg20 HGN HQ
    have HG20 := Lib.hid hg20
    clear hal hg hg20
    go_wp2_with fail
    clear l0 l1 hg0
    refine CAT.out.mono ?_
    rintro e w2 ⟨AE, NE, dE, rfl, HNE, hoE, hb2⟩
    have HB2 := Lib.hid (HBR.out.trans (hb2.mono HSZ.out))
    have HO2 := Lib.hid (ownB HOW.out hb2)
    have HRE := Lib.hid (Rd.ofOwn hoE)
    have HS2 : Hid (w.heap.size + 1 ≤ w2.heap.size) := Lib.hid (by have := hb2.size; have := HSZ.out; omega)
    have hNE : NE ≤ 1048576 := by have := HNE.out; have := HALEN.out; have := HV.out.2.1; omega
    clear hb2 hoE
    obtain ⟨T, f, x0, hx0, hTT, HST⟩ := above w2
    haveI : Nonempty T := ⟨x0⟩
    have hb1x : ∀ x, Below (w.heap.size + 1) w1 (f x) := fun x => HB2.out.trans ((hTT x).mono HS2.out)
    have hbW : ∀ x, Below w.heap.size w (f x) := fun x => HB1.out.trans ((hb1x x).mono (by omega))
    have s0 : ∀ x, (f x).cell? ⟨w.heap.size, 0, none⟩ = some (.slice (some ⟨g1, 0, none⟩) n1 c1) := fun x => ((hb1x x).cell (p := ⟨w.heap.size, 0, none⟩) (by show w.heap.size < _; omega)).trans HK0b.out
    have s1 : ∀ x, (f x).cell? ⟨w.heap.size, 1, none⟩ = some (.slice (some ⟨g2, 0, none⟩) n2 c2) := fun x => ((hb1x x).cell (p := ⟨w.heap.size, 1, none⟩) (by show w.heap.size < _; omega)).trans HK1b.out
    have CM : Hid (∀ t, Calls Try.prog 136 #[.slice AE NE dE] (f t) (RetP (.int .i64 (g : Nat)) (f t))) := Lib.hid fun t => by
      refine (l6Mask_ AE NE dE al (f t) HNE.out.symm hNE (HRE.out.moved (hTT t)) (fun j hj => HBDA.out j (by have := HNE.out; omega))).mono ?_
      rintro e w' ⟨rfl, rfl⟩
      exact ⟨by rw [HGN.out, HNE.out], Below.refl _ _⟩
    have CO : Hid (∀ x, Calls Try.prog 143 #[.agg #[.slice (some ⟨g1, 0, none⟩) n1 c1, .slice (some ⟨g2, 0, none⟩) n2 c2], .int .i64 (g : Nat), .int .i64 (k : Int)] (f x) (RetP (.bool (pb (splP n1 fs g (k : Int)))) (f x))) := Lib.hid fun x => splits_ (HNT.out.moved (hbW x)) HV.out g (k : Int) HG20.out
    have HT1 : Hid (∀ x, Below w2.heap.size w2 (f x)) := Lib.hid hTT
    have HXX := Lib.hid hx0
    obtain ⟨u, hu⟩ : ∃ u, pb (splP n1 fs g (k : Int)) = u := ⟨_, rfl⟩
    rw [hu] at CO HQ
    clear hbW hb1x hTT hx0 hu
    cases u
    case false =>
      have HTO := Lib.hid (sel_out (p := cutQ n1 fs) (k := k) HQ.out)
      go_wp2_with fail
      refine wp_region_class f (by kernel_rfl) (by kernel_rfl) x0 HXX.out ?_
      repeat (go_big_quiet_step (first | (go_at_call 136; exact Calls.inClass HST (CM.out _)) | (go_at_call 143; exact Calls.inClass HST (CO.out _))))
      refine wpQuiet_nil ?_
      rintro _ ⟨t, rfl⟩
      have HB4 := Lib.hid (HB2.out.trans ((HT1.out t).mono HS2.out))
      have HO4 : Hid ((f t).ownsRow (w.heap.size + 1) 3 1 (.slice A1 N1 d1) N1 ((selK (cutQ n1 fs) (k + 1)).map (Value.int .i64))) := Lib.hid (by rw [HTO.out]; exact ownB HO2.out (HT1.out t))
      have HN2 : Hid (N1 = (selK (cutQ n1 fs) (k + 1)).length) := Lib.hid (by rw [HTO.out]; exact HN1.out)
      clear s0 s1
      go_wp2
      go_roundw
      case rel => exact ⟨k + 1, A1, N1, d1, by omega, by go_num, rfl, by omega, HN2, HO4, HB4.out⟩
      case measure => simp [intOf]; omega
    case true =>
      have HTO := Lib.hid (sel_in (p := cutQ n1 fs) (k := k) HQ.out)
      have HQT : Hid (cutQ n1 fs k = true) := Lib.hid HQ.out
      go_wp2_with fail
      refine wp_region_class f (by kernel_rfl) (by kernel_rfl) x0 HXX.out ?_
      repeat (go_big_quiet_step (first | (go_at_call 136; exact Calls.inClass HST (CM.out _)) | (go_at_call 143; exact Calls.inClass HST (CO.out _))))
      refine wpQuiet_nil ?_
      rintro _ ⟨t, rfl⟩
      have HBD := Lib.hid (HB2.out.trans ((HT1.out t).mono HS2.out))
      have HOD := Lib.hid (ownB HO2.out (HT1.out t))
      have HSD : Hid (w.heap.size + 1 ≤ (f t).heap.size) := Lib.hid (by have := (HT1.out t).size; have := HS2.out; omega)
      clear s0 s1
      generalize f t = wd at HBD HOD HSD ⊢
      go_wp2_with (at_builtin; refine wp_app rfl (.tmp 31) (.tmp 33) 39 3 rfl (w.heap.size + 1) Try.underlying39 Try.inf_int rfl (by decide) (by decide) _ N1 _ rfl (HOD.out.alloc _) _ _ [.int .i64 (k : Int)] rfl rfl (news1 (new_at_ _ _ _ _ rfl)) (news_int _) (by omega) (by have := HSD.out; simp; omega) ?_)
      intro A3 d3 N3 w4 hN3 hown3 hgrow3 hloc3
      have HB3_ := Lib.hid ((HBD.out.alloc HSD.out _).grown hgrow3 (by have := HSD.out; simp; omega) (fun g hg => (HOD.out.lt g hg).1))
      have HO3_ : Hid (w4.ownsRow (w.heap.size + 1) 3 1 (.slice A3 N3 d3) N3 ((selK (cutQ n1 fs) (k + 1)).map (Value.int .i64))) := Lib.hid (by rw [HTO.out, List.map_append]; exact hown3)
      have HN4 := Lib.hid (sel_pushed HQT.out HN1.out hN3)
      have hN5 : N3 ≤ k + 1 := by omega
      clear hown3 hgrow3 hloc3 hN3
      go_wp2
      go_roundw
      case rel => exact ⟨k + 1, A3, N3, d3, by omega, by go_num, rfl, hN5, HN4, HO3_, HB3_.out⟩
      case measure => simp [intOf]; omega
end Go.Proofs.Ytcbjdfgmkiodkaa
