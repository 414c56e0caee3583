/- Bridges: contracts of Bridges, both sides. No condition but those typed. -/
import Derived.Test.YtcbjdfgmkiodkaaSplit6
import Derived.Test.YtcbjdfgmkiodkaaGA
import Derived.Test.YtcbjdfgmkiodkaaGB
namespace Go.Proofs.Ytcbjdfgmkiodkaa
open Go.ChangeShapes Go.WideShapes Go.ChangeAt Go.RowKit

noncomputable def brQ (fs : List Q4) (i : Nat) : Bool := !(pb (Cn fs (2 ^ i) ((fibI fs (i : Int)).a) ((fibI fs (i : Int)).b)))
theorem br_at {fs : List Q4} {i : Nat} {q : Q4} (h : fibI fs (i : Int) = q) : brQ fs i = !(pb (Cn fs (2 ^ i) q.a q.b)) := by unfold brQ; rw [h]
/-- a row of numbers pushed in a loop. -/
theorem sel_pushed {p : Nat → Bool} {k N1 N3 : Nat} (hp : p k = true) (HN1 : N1 = (selK p k).length) (hN3 : N3 = N1 + 1) : N3 = (selK p (k + 1)).length := by rw [sel_in hp, List.length_append, ← HN1, hN3]; rfl
set_option maxRecDepth 100000 in
set_option maxHeartbeats 8000000 in
theorem specBR {g1 g2 n1 n2 c1 c2 : Nat} {ss : List ByteArray} {fs : List Q4} {w : World} (h : NetAt g1 g2 n1 n2 c1 c2 ss fs w) :
    Calls Try.prog 57 #[.agg #[.slice (some ⟨g1, 0, none⟩) n1 c1, .slice (some ⟨g2, 0, none⟩) n2 c2]] w (IntsP (selV (netP ss fs) (brQ fs) fs.length) (pb (netP ss fs)) w) := by
  have HNT := Lib.hid h
  have HL2 := Lib.hid h.ln2
  have hs2 := h.sm2
  clear h
  have HL1 := Lib.hid HNT.out.ln1
  obtain ⟨RL, hRL⟩ : ∃ r, selV (netP ss fs) (brQ fs) fs.length = r := ⟨_, rfl⟩
  obtain ⟨RB, hRB⟩ : ∃ r, pb (netP ss fs) = r := ⟨_, rfl⟩
  have HNO : Hid (¬ netP ss fs → RL = [] ∧ RB = false) := Lib.hid (fun e => by rw [← hRL, ← hRB]; exact selV_no e)
  have HYES : Hid (netP ss fs → RL = selK (brQ fs) fs.length ∧ RB = true) := Lib.hid (fun e => by rw [← hRL, ← hRB]; exact selV_yes e)
  rw [hRL, hRB]
  clear hRL
  go_enter Try.func57, Try.ntmps57
  go_wp2_with fail
  obtain ⟨W0, hW0⟩ : ∃ W0, (w.alloc (Obj.cells #[.slice (some ⟨g1, 0, none⟩) n1 c1, .slice (some ⟨g2, 0, none⟩) n2 c2] 32)).alloc (Obj.cells #[] 3) = W0 := ⟨_, rfl⟩
  have hb0 : Below w.heap.size w W0 := by rw [← hW0]; exact ((Below.refl _ _).alloc (Nat.le_refl _) _).alloc (by simp) _
  have hk0 : W0.cell? ⟨w.heap.size, 0, none⟩ = some (.slice (some ⟨g1, 0, none⟩) n1 c1) := by rw [← hW0]; simp [go_sem]
  have hk1 : W0.cell? ⟨w.heap.size, 1, none⟩ = some (.slice (some ⟨g2, 0, none⟩) n2 c2) := by rw [← hW0]; simp [go_sem]
  have hz0 : w.heap.size + 1 < W0.heap.size := by rw [← hW0]; simp
  have HB0 := Lib.hid hb0; have HK0 := Lib.hid hk0; have HK1 := Lib.hid hk1; have HZB := Lib.hid hz0
  have HO0 : Hid (W0.ownsRow (w.heap.size + 1) 3 1 (.slice (some ⟨w.heap.size + 1, 0, none⟩) 0 0) 0 []) := Lib.hid (by
    rw [← hW0]
    have h9 := World.ownsRow_lit (base := w.heap.size + 1) (e := 3) (size := 1) (w.alloc (Obj.cells #[.slice (some ⟨g1, 0, none⟩) n1 c1, .slice (some ⟨g2, 0, none⟩) n2 c2] 32)) #[] 0 (by simp) (by unfold maxLen; omega) rfl
    simpa using h9)
  rw [hW0]
  clear hW0 hb0
  clear hk0 hk1 hz0
  refine (specNet_ (HNT.out.moved HB0.out)).mono ?_
  rw [hRB]
  rintro e w1 ⟨rfl, hb1⟩
  have HB1 := Lib.hid (HB0.out.trans (hb1.mono HB0.out.size))
  have HO1 := Lib.hid (ownB HO0.out hb1)
  have HK0b := Lib.hid ((hb1.cell (p := ⟨w.heap.size, 0, none⟩) (by show w.heap.size < _; have := HZB.out; omega)).trans HK0.out)
  have HK1b := Lib.hid ((hb1.cell (p := ⟨w.heap.size, 1, none⟩) (by show w.heap.size < _; have := HZB.out; omega)).trans HK1.out)
  have HZ1 : Hid (w.heap.size + 1 < w1.heap.size) := Lib.hid (by have := HZB.out; have := hb1.size; omega)
  clear hb1
  cases RB
  case false =>
    have HE := Lib.hid (HNO.out (of_npb hRB))
    clear hRB
    go_wp2
    go_ret2
    obtain ⟨rfl, _⟩ := HE.out
    exact ⟨_, 0, _, rfl, Lib.hid rfl, own_base HO1.out (by omega), HB1.out⟩
  case true =>
  have hv := of_pb hRB
  have HV := Lib.hid hv
  have HE := Lib.hid (HYES.out hv)
  have hnf : n2 ≤ 14 := by have := hv.2.1; have := HL2.out; omega
  have hn8 : n1 ≤ 8 := by have := hv.1; have := HL1.out; omega
  clear hRB hv
  go_wp2
  go_loopw [4, 5] (fun v i wr => ∃ (k : Nat) (A1 : Option Addr) (N1 d1 : Nat), k ≤ n2 ∧ i = .int .i64 k ∧ v = .slice A1 N1 d1 ∧ N1 ≤ k ∧ Hid (N1 = (selK (brQ fs) k).length) ∧ Hid (wr.ownsRow (w.heap.size + 1) 3 1 (.slice A1 N1 d1) N1 ((selK (brQ fs) k).map (Value.int .i64))) ∧ Below (w.heap.size + 1) w1 wr) (fun _ i _ => n2 - (intOf i).toNat)
  case atStart => exact ⟨0, _, 0, _, Nat.zero_le _, rfl, rfl, Nat.le_refl _, Lib.hid rfl, HO1, Below.refl _ _⟩
  case round =>
    obtain ⟨k, A1, N1, d1, hk, rfl, rfl, hNk, HN1, HOW, hb⟩ := hrel
    have HBR := Lib.hid hb
    have HBW := Lib.hid (HB1.out.trans (hb.mono (Nat.le_succ _)))
    have hsz : w.heap.size + 1 ≤ wr.heap.size := by have := hb.size; have := HZ1.out; omega
    have HLK : Hid (∀ W, Below wr.heap.size wr W → W.cell? ⟨w.heap.size, 0, none⟩ = some (.slice (some ⟨g1, 0, none⟩) n1 c1) ∧ W.cell? ⟨w.heap.size, 1, none⟩ = some (.slice (some ⟨g2, 0, none⟩) n2 c2) ∧ w.heap.size < W.heap.size) := Lib.hid (fun W hW => by
      have h9 := hb.trans (hW.mono hsz)
      exact ⟨(h9.cell (p := ⟨w.heap.size, 0, none⟩) (by show w.heap.size < _; omega)).trans HK0b.out, (h9.cell (p := ⟨w.heap.size, 1, none⟩) (by show w.heap.size < _; omega)).trans HK1b.out, by have := hW.size; omega⟩)
    obtain ⟨l0, l1, hg0⟩ := HLK.out wr (Below.refl _ _)
    clear hb
    by_cases hlt : k < n2
    case neg =>
      have HF : Hid (RL = selK (brQ fs) k) := Lib.hid (by rw [HE.out.1, show fs.length = k by have := HL2.out; omega])
      go_wp2
      go_ret2
      rw [HF.out]
      exact ⟨A1, N1, d1, rfl, HN1, own_base HOW.out (Nat.le_succ _), HBW.out⟩
    case pos =>
    have CL := Lib.hid (labels_ (HNT.out.moved HBW.out) HV.out (2 ^ k) (Nat.pow_lt_pow_right (by decide) (by omega)))
    rw [← pow_int] at CL
    have hw1 : (2 : Int) ^ k ≤ 1048576 := by rw [pow_int]; have : 2 ^ k < 2 ^ 20 := Nat.pow_lt_pow_right (by decide) (by omega); omega
    have hw0 : 0 ≤ (2 : Int) ^ k := Int.pow_nonneg (by omega)
    go_wp2_with fail
    clear l0 l1 hg0 hw1 hw0
    refine CL.out.mono ?_
    rintro e w2 ⟨L, AL, NL, dL, rfl, HNL, HLP, hoL, hb2⟩
    obtain ⟨l0, l1, hg0⟩ := HLK.out w2 hb2
    have HB2 := Lib.hid (HBR.out.trans (hb2.mono hsz))
    have HO2 := Lib.hid (ownB HOW.out hb2)
    have hsz2 : w.heap.size + 1 ≤ w2.heap.size := by have := hb2.size; omega
    have HBW2 := Lib.hid (HBW.out.trans (hb2.mono HBW.out.size))
    have hks : k < fs.length := by have := HL2.out; omega
    have HEN : Hid (Ends fs k ((fibI fs (k : Int)).a) ((fibI fs (k : Int)).b)) := Lib.hid ⟨hks, .inl ⟨rfl, rfl⟩⟩
    have hr := (HNT.out.moved HBW2.out).rd2.q4c hks
    obtain ⟨q, hq⟩ : ∃ q, fs[k]'hks = q := ⟨_, rfl⟩
    have hfq : fibI fs (k : Int) = q := by rw [← hq]; exact fib_at hks
    have HBQ := Lib.hid (br_at hfq)
    rw [hfq] at HEN
    rw [Nat.zero_add, hq] at hr
    obtain ⟨a, b, ea, eb, hab1, hab2, hne⟩ := HEN.out.nat HV.out
    obtain ⟨qa, qb, qc, qd⟩ := q
    simp only at ea eb hr HBQ
    subst ea eb
    obtain ⟨hgv, f0, f1, f2, f3⟩ := hr
    have haN : a < NL := by have := HL1.out; have := HNL.out; omega
    have hbN : b < NL := by have := HL1.out; have := HNL.out; omega
    have haI : (a : Int) < NL := by omega
    have hbI : (b : Int) < NL := by omega
    have HSM := Lib.hid (HLP.out.same (i := a) (j := b) (by have := HNL.out; omega) (by have := HNL.out; omega))
    obtain ⟨x, hx⟩ : ∃ x, L.getD a 0 = x := ⟨_, rfl⟩
    obtain ⟨y, hy⟩ : ∃ x, L.getD b 0 = x := ⟨_, rfl⟩
    rw [hx, hy] at HSM
    obtain ⟨gL, rfl⟩ := own_some hoL (by omega)
    have hLl : NL = L.length := by rw [HLP.out.len]; exact HNL.out
    have cx := own_int hoL hLl haN hx
    have cy := own_int hoL hLl hbN hy
    have hkI : (k : Int) < n2 := by omega
    clear hks hq hfq hab1 hab2 hne hx hy f2 f3 hoL hb2 hLl haN hbN
    by_cases hxy : x = y
    case pos =>
      have HQF : Hid (brQ fs k = false) := Lib.hid (by rw [HBQ.out, pb_true (HSM.out.1 hxy)]; rfl)
      have HTO := Lib.hid (sel_out HQF.out)
      have HN2 : Hid (N1 = (selK (brQ fs) (k + 1)).length) := Lib.hid (by rw [HTO.out]; exact HN1.out)
      have HO2_ : Hid (w2.ownsRow (w.heap.size + 1) 3 1 (.slice A1 N1 d1) N1 ((selK (brQ fs) (k + 1)).map (Value.int .i64))) := Lib.hid (by rw [HTO.out]; exact HO2.out)
      subst hxy
      go_wp2_with fail
      go_quiet (fail)
      go_wp2
      go_roundw
      case rel => exact ⟨k + 1, A1, N1, d1, by omega, by go_num, rfl, by omega, HN2, Lib.hid (own_heapW rfl HO2_.out), drewN_below_ HB2.out _⟩
      case measure => simp [intOf]; omega
    case neg =>
      have p1 : (x != y) = true := by simpa using hxy
      have HQT : Hid (brQ fs k = true) := Lib.hid (by rw [HBQ.out, pb_false (fun h => hxy (HSM.out.2 h))]; rfl)
      have HTO := Lib.hid (sel_in HQT.out)
      clear hxy
      go_wp2_with fail
      go_quiet (fail)
      obtain ⟨wd, hwd⟩ : ∃ wd, w2.drewN nq = wd := ⟨_, rfl⟩
      have HBD : Hid (Below (w.heap.size + 1) w1 wd) := Lib.hid (by rw [← hwd]; exact drewN_below_ HB2.out _)
      have HOD : Hid (wd.ownsRow (w.heap.size + 1) 3 1 (.slice A1 N1 d1) N1 ((selK (brQ fs) k).map (Value.int .i64))) := Lib.hid (by rw [← hwd]; exact own_heapW rfl HO2.out)
      have HSD : Hid (w.heap.size + 1 ≤ wd.heap.size) := Lib.hid (by rw [← hwd]; exact hsz2)
      rw [hwd]
      clear hwd cx cy l0 l1 hg0 f0 f1 hgv
      go_wp2_with (at_builtin; refine wp_app rfl (.tmp 43) (.tmp 45) 39 3 rfl (w.heap.size + 1) Try.underlying39 Try.inf_int rfl (by decide) (by decide) _ N1 _ rfl (HOD.out.alloc _) _ _ [.int .i64 (k : Int)] rfl rfl (news1 (new_at_ _ _ _ _ rfl)) (news_int _) (by omega) (by have := HSD.out; simp; omega) ?_)
      intro A3 d3 N3 w4 hN3 hown3 hgrow3 hloc3
      have HB3_ := Lib.hid ((HBD.out.alloc HSD.out _).grown hgrow3 (by have := HSD.out; simp; omega) (fun g hg => (HOD.out.lt g hg).1))
      have HO3_ : Hid (w4.ownsRow (w.heap.size + 1) 3 1 (.slice A3 N3 d3) N3 ((selK (brQ fs) (k + 1)).map (Value.int .i64))) := Lib.hid (by rw [HTO.out, List.map_append]; exact hown3)
      have HN4 := Lib.hid (sel_pushed HQT.out HN1.out hN3)
      have hN5 : N3 ≤ k + 1 := by omega
      clear hown3 hgrow3 hloc3 hN3
      go_wp2
      go_roundw
      case rel => exact ⟨k + 1, A3, N3, d3, by omega, by go_num, rfl, hN5, HN4, HO3_, HB3_.out⟩
      case measure => simp [intOf]; omega
set_option maxRecDepth 100000 in
set_option maxHeartbeats 8000000 in
theorem implBR {g1 g2 n1 n2 c1 c2 : Nat} {ss : List ByteArray} {fs : List Q4} {w : World} (h : NetAt g1 g2 n1 n2 c1 c2 ss fs w) :
    Calls Try.prog 58 #[.agg #[.slice (some ⟨g1, 0, none⟩) n1 c1, .slice (some ⟨g2, 0, none⟩) n2 c2]] w (IntsP (selV (netP ss fs) (brQ fs) fs.length) (pb (netP ss fs)) w) := by
  have HNT := Lib.hid h
  have HL2 := Lib.hid h.ln2
  have hs2 := h.sm2
  clear h
  have HL1 := Lib.hid HNT.out.ln1
  obtain ⟨RL, hRL⟩ : ∃ r, selV (netP ss fs) (brQ fs) fs.length = r := ⟨_, rfl⟩
  obtain ⟨RB, hRB⟩ : ∃ r, pb (netP ss fs) = r := ⟨_, rfl⟩
  have HNO : Hid (¬ netP ss fs → RL = [] ∧ RB = false) := Lib.hid (fun e => by rw [← hRL, ← hRB]; exact selV_no e)
  have HYES : Hid (netP ss fs → RL = selK (brQ fs) fs.length ∧ RB = true) := Lib.hid (fun e => by rw [← hRL, ← hRB]; exact selV_yes e)
  rw [hRL, hRB]
  clear hRL
  go_enter Try.func58, Try.ntmps58
  go_wp2_with fail
  obtain ⟨W0, hW0⟩ : ∃ W0, (w.alloc (Obj.cells #[.slice (some ⟨g1, 0, none⟩) n1 c1, .slice (some ⟨g2, 0, none⟩) n2 c2] 32)) = W0 := ⟨_, rfl⟩
  have hb0 : Below w.heap.size w W0 := by rw [← hW0]; exact (Below.refl _ _).alloc (Nat.le_refl _) _
  have hk0 : W0.cell? ⟨w.heap.size, 0, none⟩ = some (.slice (some ⟨g1, 0, none⟩) n1 c1) := by rw [← hW0]; simp [go_sem]
  have hk1 : W0.cell? ⟨w.heap.size, 1, none⟩ = some (.slice (some ⟨g2, 0, none⟩) n2 c2) := by rw [← hW0]; simp [go_sem]
  have hz0 : w.heap.size < W0.heap.size := by rw [← hW0]; simp
  have HB0 := Lib.hid hb0; have HK0 := Lib.hid hk0; have HK1 := Lib.hid hk1; have HZB := Lib.hid hz0
  rw [hW0]
  clear hW0 hb0
  clear hk0 hk1 hz0
  refine (implNet_ (HNT.out.moved HB0.out)).mono ?_
  rw [hRB]
  rintro e w1 ⟨rfl, hb1⟩
  have HB1 := Lib.hid (HB0.out.trans (hb1.mono HB0.out.size))
  have k1 := (hb1.cell (p := ⟨w.heap.size, 1, none⟩) (by show w.heap.size < _; have := HZB.out; omega)).trans HK1.out
  have HK0b := Lib.hid ((hb1.cell (p := ⟨w.heap.size, 0, none⟩) (by show w.heap.size < _; have := HZB.out; omega)).trans HK0.out)
  have HK1b := Lib.hid k1
  have hz1 : w.heap.size < w1.heap.size := by have := HZB.out; have := hb1.size; omega
  have HZ1 := Lib.hid hz1
  clear hb1
  cases RB
  case false =>
    have HE := Lib.hid (HNO.out (of_npb hRB))
    clear hRB
    go_wp2
    go_ret2
    exact ints_no ⟨HE.out.1, rfl⟩ HB1.out
  case true =>
  have hv := of_pb hRB
  have HV := Lib.hid hv
  have HE := Lib.hid (HYES.out hv)
  have hnf : n2 ≤ 14 := by have := hv.2.1; have := HL2.out; omega
  have hn8 : n1 ≤ 8 := by have := hv.1; have := HL1.out; omega
  clear hRB hv
  go_wp2
  clear k1 hz1
  go_loopw [4, 13] (fun v i wr => ∃ (k : Nat) (A1 : Option Addr) (N1 d1 : Nat), k ≤ n2 ∧ i = .int .i64 k ∧ v = .slice A1 N1 d1 ∧ N1 ≤ k ∧ Hid (N1 = (selK (brQ fs) k).length) ∧ Hid (wr.ownsRow w1.heap.size 3 1 (.slice A1 N1 d1) N1 ((selK (brQ fs) k).map (Value.int .i64))) ∧ Below w1.heap.size w1 wr) (fun _ i _ => n2 - (intOf i).toNat)
  case atStart => exact ⟨0, none, 0, 0, Nat.zero_le _, rfl, rfl, Nat.le_refl _, Lib.hid rfl, Lib.hid (World.ownsRow_nil _ _ _ _), Below.refl _ _⟩
  case round =>
    obtain ⟨k, A1, N1, d1, hk, rfl, rfl, hNk, HN1, HOW, hb⟩ := hrel
    have HBR := Lib.hid hb
    have HBW := Lib.hid (HB1.out.trans (hb.mono HB1.out.size))
    have hsz := hb.size
    have HSZ := Lib.hid hsz
    clear hb
    by_cases hlt : k < n2
    case neg =>
      have HF : Hid (RL = selK (brQ fs) k) := Lib.hid (by rw [HE.out.1, show fs.length = k by have := HL2.out; omega])
      go_wp2
      go_ret2
      rw [HF.out]
      exact ⟨A1, N1, d1, rfl, HN1, own_base HOW.out HB1.out.size, HBW.out⟩
    case pos =>
    have hks : k < fs.length := by have := HL2.out; omega
    have HEN : Hid (Ends fs k ((fibI fs (k : Int)).a) ((fibI fs (k : Int)).b)) := Lib.hid ⟨hks, .inl ⟨rfl, rfl⟩⟩
    have hr := (HNT.out.moved HBW.out).rd2.q4c hks
    obtain ⟨q, hq⟩ : ∃ q, fs[k]'hks = q := ⟨_, rfl⟩
    have hfq : fibI fs (k : Int) = q := by rw [← hq]; exact fib_at hks
    have HBQ := Lib.hid (br_at hfq)
    rw [hfq] at HEN
    rw [Nat.zero_add, hq] at hr
    obtain ⟨a, b, ea, eb, hab1, hab2, hne⟩ := HEN.out.nat HV.out
    obtain ⟨qa, qb, qc, qd⟩ := q
    simp only at ea eb hr HBQ
    subst ea eb
    obtain ⟨hgv, f0, f1, f2, f3⟩ := hr
    have HABN : Hid (a < n1 ∧ b < n1) := Lib.hid (by have := HL1.out; omega)
    have hw1 : (2 : Int) ^ k ≤ 1048576 := by rw [pow_int]; have : 2 ^ k < 2 ^ 20 := Nat.pow_lt_pow_right (by decide) (by omega); omega
    have hw0 : 0 ≤ (2 : Int) ^ k := Int.pow_nonneg (by omega)
    have hbx := HBR.out.alloc hsz (Obj.cells #[.int .i64 (a : Int), .int .i64 (b : Int), .int .i64 qc, .int .i64 qd] 172)
    have hd0 : (wr.alloc (Obj.cells #[.int .i64 (a : Int), .int .i64 (b : Int), .int .i64 qc, .int .i64 qd] 172)).cell? ⟨wr.heap.size, 0, none⟩ = some (.int .i64 (a : Int)) := by simp [go_sem]
    have hd1 : (wr.alloc (Obj.cells #[.int .i64 (a : Int), .int .i64 (b : Int), .int .i64 qc, .int .i64 qd] 172)).cell? ⟨wr.heap.size, 1, none⟩ = some (.int .i64 (b : Int)) := by simp [go_sem]
    have hzb : wr.heap.size < (wr.alloc (Obj.cells #[.int .i64 (a : Int), .int .i64 (b : Int), .int .i64 qc, .int .i64 qd] 172)).heap.size := by simp
    have HOX := Lib.hid (HOW.out.alloc (Obj.cells #[.int .i64 (a : Int), .int .i64 (b : Int), .int .i64 qc, .int .i64 qd] 172))
    clear hks hq hfq hab1 hab2 hne
    go_wp2_with fail
    clear f0 f1 f2 f3 hgv
    obtain ⟨wb, hwb⟩ : ∃ wb, (wr.alloc (Obj.cells #[.int .i64 (a : Int), .int .i64 (b : Int), .int .i64 qc, .int .i64 qd] 172)) = wb := ⟨_, rfl⟩
    rw [hwb] at hbx hd0 hd1 hzb HOX ⊢
    clear hwb
    have HBX := Lib.hid hbx; have HD0 := Lib.hid hd0; have HD1 := Lib.hid hd1; have HZX := Lib.hid hzb
    clear hbx hd0 hd1 hzb
    obtain ⟨T, f, x0, hx0, hTT, HST⟩ := above wb
    haveI : Nonempty T := ⟨x0⟩
    have hbW : ∀ x, Below w.heap.size w (f x) := fun x => HB1.out.trans ((HBX.out.mono HB1.out.size).trans ((hTT x).mono (Nat.le_trans HB1.out.size HBX.out.size)))
    have hb1x : ∀ x, Below w1.heap.size w1 (f x) := fun x => HBX.out.trans ((hTT x).mono HBX.out.size)
    have s0 : ∀ x, (f x).cell? ⟨w.heap.size, 0, none⟩ = some (.slice (some ⟨g1, 0, none⟩) n1 c1) := fun x => ((hb1x x).cell (p := ⟨w.heap.size, 0, none⟩) HZ1.out).trans HK0b.out
    have s1 : ∀ x, (f x).cell? ⟨w.heap.size, 1, none⟩ = some (.slice (some ⟨g2, 0, none⟩) n2 c2) := fun x => ((hb1x x).cell (p := ⟨w.heap.size, 1, none⟩) HZ1.out).trans HK1b.out
    have s2 : ∀ x, (f x).cell? ⟨wr.heap.size, 0, none⟩ = some (.int .i64 (a : Int)) := fun x => ((hTT x).cell (p := ⟨wr.heap.size, 0, none⟩) HZX.out).trans HD0.out
    have s3 : ∀ x, (f x).cell? ⟨wr.heap.size, 1, none⟩ = some (.int .i64 (b : Int)) := fun x => ((hTT x).cell (p := ⟨wr.heap.size, 1, none⟩) HZX.out).trans HD1.out
    have CO : Hid (∀ x, Calls Try.prog 146 #[.agg #[.slice (some ⟨g1, 0, none⟩) n1 c1, .slice (some ⟨g2, 0, none⟩) n2 c2], .int .i64 (a : Int), .int .i64 (b : Int), .int .i64 ((2 : Int) ^ k)] (f x) (RetP (.bool (pb (Cn fs (2 ^ k) (a : Int) (b : Int)))) (f x))) := Lib.hid fun x => by rw [pow_int]; exact areCon_ (HNT.out.moved (hbW x)) HV.out a b (2 ^ k) HABN.out.1 HABN.out.2 (Nat.pow_lt_pow_right (by decide) (by omega))
    have HT1 : Hid (∀ x, Below wb.heap.size wb (f x)) := Lib.hid hTT
    have HXX := Lib.hid hx0
    clear hbW hb1x hTT hx0
    obtain ⟨u, hu⟩ : ∃ u, pb (Cn fs (2 ^ k) (a : Int) (b : Int)) = u := ⟨_, rfl⟩
    rw [hu] at CO HBQ
    clear hu
    cases u
    case true =>
      have HTO := Lib.hid (sel_out (p := brQ fs) (k := k) HBQ.out)
      go_wp2_with fail
      refine wp_region_class f (by kernel_rfl) (by kernel_rfl) x0 HXX.out ?_
      repeat (go_big_quiet_step ((go_at_call 146; exact Calls.inClass HST (CO.out _))))
      refine wpQuiet_nil ?_
      rintro _ ⟨x, rfl⟩
      have HB3 := Lib.hid (HBX.out.trans ((HT1.out x).mono HBX.out.size))
      have HO3 : Hid ((f x).ownsRow w1.heap.size 3 1 (.slice A1 N1 d1) N1 ((selK (brQ fs) (k + 1)).map (Value.int .i64))) := Lib.hid (by rw [HTO.out]; exact ownB HOX.out (HT1.out x))
      have HN2 : Hid (N1 = (selK (brQ fs) (k + 1)).length) := Lib.hid (by rw [HTO.out]; exact HN1.out)
      clear s0 s1 s2 s3
      go_wp2
      go_roundw
      case rel => exact ⟨k + 1, A1, N1, d1, by omega, by go_num, rfl, by omega, HN2, HO3, HB3.out⟩
      case measure => simp [intOf]; omega
    case false =>
      have HTO := Lib.hid (sel_in (p := brQ fs) (k := k) HBQ.out)
      have HQT : Hid (brQ fs k = true) := Lib.hid HBQ.out
      go_wp2_with fail
      refine wp_region_class f (by kernel_rfl) (by kernel_rfl) x0 HXX.out ?_
      repeat (go_big_quiet_step ((go_at_call 146; exact Calls.inClass HST (CO.out _))))
      refine wpQuiet_nil ?_
      rintro _ ⟨x, rfl⟩
      have HB3 := Lib.hid (HBX.out.trans ((HT1.out x).mono HBX.out.size))
      have HO3 := Lib.hid (ownB HOX.out (HT1.out x))
      clear s0 s1 s2 s3
      generalize f x = wq at HB3 HO3 ⊢
      have hszq := HB3.out.size
      go_wp2_with (at_builtin; refine wp_app rfl (.tmp 27) (.tmp 29) 39 3 rfl w1.heap.size Try.underlying39 Try.inf_int rfl (by decide) (by decide) _ N1 _ rfl (HO3.out.alloc _) _ _ [.int .i64 (k : Int)] rfl rfl (news1 (new_at_ _ _ _ _ rfl)) (news_int _) (by omega) (by simp; omega) ?_)
      intro A3 d3 N3 w4 hN3 hown3 hgrow3 hloc3
      have HB4 := Lib.hid ((HB3.out.alloc hszq _).grown hgrow3 (by simp; omega) (fun g hg => (HO3.out.lt g hg).1))
      have HO4 : Hid (w4.ownsRow w1.heap.size 3 1 (.slice A3 N3 d3) N3 ((selK (brQ fs) (k + 1)).map (Value.int .i64))) := Lib.hid (by rw [HTO.out, List.map_append]; exact hown3)
      have HN4 := Lib.hid (sel_pushed HQT.out HN1.out hN3)
      have hN5 : N3 ≤ k + 1 := by omega
      clear hown3 hgrow3 hloc3 hN3
      go_wp2
      go_roundw
      case rel => exact ⟨k + 1, A3, N3, d3, by omega, by go_num, rfl, hN5, HN4, HO4, HB4.out⟩
      case measure => simp [intOf]; omega
end Go.Proofs.Ytcbjdfgmkiodkaa
