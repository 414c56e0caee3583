/- Direct grooming: contract of spec.GroomDirect. No condition but those typed. -/
import Derived.Test.YtlgkjidginibdaaGdI
import Derived.Test.YtlgkjidginibdaaPdO
import Derived.Test.YtlgkjidginibdaaCaH
import Derived.BigRegion
import Derived.BigQuiet
import Derived.Deep.DeepCutAuto
namespace Go.Proofs.Ytlgkjidginibdaa
open Go.ChangeShapes Go.WideShapes Go.ChangeAt Go.RowKit

theorem leastG (x y : Int) (w : World) : Calls Try.prog 122 #[.int .i64 x, .int .i64 y] w fun e w' => e = .returned (.int .i64 (min x y)) ∧ w' = w := by
  by_cases h : x < y
  · have e : min x y = x := by omega
    rw [e]
    go_enter Try.func122, Try.ntmps122
    go_wp2
    go_ret
    exact ⟨rfl, rfl⟩
  · have e : min x y = y := by omega
    rw [e]
    go_enter Try.func122, Try.ntmps122
    go_wp2
    go_ret
    exact ⟨rfl, rfl⟩
theorem gdB_mm {q : Q3} {a b : Nat} (h : a < b) : gdB q (a : Int) (b : Int) = (decide (min q.a q.b = (a : Int)) && decide (max q.a q.b = (b : Int))) := by
  rw [Bool.eq_iff_iff]
  unfold gdB
  rw [Bool.or_eq_true, Bool.and_eq_true, Bool.and_eq_true, Bool.and_eq_true, decide_eq_true_iff, decide_eq_true_iff, beq_iff_eq, beq_iff_eq, beq_iff_eq, beq_iff_eq]
  omega
theorem cap_no {qs : List Q3} {cap : Int} {k : Nat} (hk : k < qs.length) (h : cap < (q3n qs k).c) : capAll qs cap = false := by
  unfold capAll
  cases ha : qs.all fun q => decide (q.c ≤ cap)
  · rw [Bool.and_false]
  · have h9 := of_decide_eq_true (List.all_eq_true.1 ha qs[k] (List.getElem_mem hk))
    rw [q3n_at hk rfl] at h
    omega
theorem cap_yes {qs : List Q3} {cap : Int} (hc : inB cap 1 10000 = true) (h : ∀ k, k < qs.length → (q3n qs k).c ≤ cap) : capAll qs cap = true := by
  unfold capAll
  rw [hc, Bool.true_and, List.all_eq_true]
  intro q hq
  obtain ⟨i, hi, e⟩ := List.mem_iff_getElem.1 hq
  have h9 := h i hi
  rw [q3n_at hi e] at h9
  exact decide_eq_true h9
set_option maxRecDepth 100000 in
set_option maxHeartbeats 8000000 in
theorem specGD {g3 n c : Nat} {qs : List Q3} {w : World} (hn : qs.length = n) (hr : Rd w w.heap.size (some ⟨g3, 0, none⟩) (qs.flatMap Q3.cells)) (hs : n ≤ 1048576) (nodes cap : Int) (hd0 : -9223372036854775808 ≤ nodes) (hd1 : nodes ≤ 9223372036854775807) :
    Calls Try.prog 48 #[.slice (some ⟨g3, 0, none⟩) n c, .int .i64 nodes, .int .i64 cap] w (RowsP (gdL qs nodes cap) (gdOk qs nodes cap) w) := by
  have HN := Lib.hid hn; have HR := Lib.hid hr
  have CT := Lib.hid (fun (U : World) (hU : Below w.heap.size w U) => specTri g3 n c qs nodes U hd0 hd1 hn hs (hr.moved hU))
  have CI := Lib.hid (fun U => in_ cap 1 10000 U)
  obtain ⟨RL, hRL⟩ : ∃ r, gdL qs nodes cap = r := ⟨_, rfl⟩
  obtain ⟨RB, hRB⟩ : ∃ r, gdOk qs nodes cap = r := ⟨_, rfl⟩
  have HRL := Lib.hid hRL; have HRB := Lib.hid hRB
  have HNO : Hid (gdOk qs nodes cap = false → RL = [] ∧ RB = false) := Lib.hid (fun h => ⟨hRL.symm.trans (gd_no h).1, hRB.symm.trans h⟩)
  rw [hRL, hRB]
  clear hRL hRB hn hr
  obtain ⟨W1, hW1⟩ : ∃ W, w.alloc (Obj.cells #[] 26) = W := ⟨_, rfl⟩
  have HB1 : Hid (Below w.heap.size w W1) := Lib.hid (by rw [← hW1]; exact (Below.refl _ _).alloc (Nat.le_refl _) _)
  obtain ⟨g0, hg0⟩ : ∃ g, w.heap.size = g := ⟨_, rfl⟩
  have HLIT0 : Hid (Rws w.heap.size (some ⟨g0, 0, none⟩) 0 0 [] W1) := Lib.hid (by rw [← hW1, ← hg0]; exact Rws.lit _ _ (Nat.le_refl _))
  cases htr : triB qs nodes
  case false =>
    have HE := Lib.hid (HNO.out (by unfold gdOk; rw [htr]; rfl))
    have CT1 := Lib.hid (CT.out W1 HB1.out)
    rw [htr] at CT1
    clear htr CT
    go_enter Try.func48, Try.ntmps48
    go_wp2_with fail
    try rw [hW1]
    try rw [hg0]
    refine CT1.out.mono ?_
    rintro e w1 ⟨rfl, hb1⟩
    have HB2 := Lib.hid (HB1.out.trans (hb1.mono HB1.out.size))
    have HL2 := Lib.hid (HLIT0.out.moved hb1)
    clear hb1
    go_wp2
    go_ret2
    exact ⟨some ⟨g0, 0, none⟩, 0, 0, [], by rw [HE.out.2]; rfl, Lib.hid HE.out.1.symm, HL2.out, HB2.out⟩
  case true =>
  have HTR := Lib.hid htr
  cases hcb : inB cap 1 10000
  case false =>
    have HE := Lib.hid (HNO.out (by unfold gdOk capAll; rw [htr, hcb]; rfl))
    have CT1 := Lib.hid (CT.out W1 HB1.out)
    rw [htr] at CT1
    rw [hcb] at CI
    clear htr hcb CT
    go_enter Try.func48, Try.ntmps48
    go_wp2_with fail
    try rw [hW1]
    try rw [hg0]
    refine CT1.out.mono ?_
    rintro e w1 ⟨rfl, hb1⟩
    have HB2 := Lib.hid (HB1.out.trans (hb1.mono HB1.out.size))
    have HL2 := Lib.hid (HLIT0.out.moved hb1)
    clear hb1
    go_wp2_with fail
    refine (CI.out _).mono ?_
    rintro e w2 ⟨rfl, rfl⟩
    go_wp2
    go_ret2
    exact ⟨some ⟨g0, 0, none⟩, 0, 0, [], by rw [HE.out.2]; rfl, Lib.hid HE.out.1.symm, HL2.out, HB2.out⟩
  case true =>
  have HCB := Lib.hid hcb
  have hn8 := triB_n8 htr
  obtain ⟨m, rfl⟩ : ∃ m : Nat, nodes = (m : Int) := ⟨nodes.toNat, by omega⟩
  have hm8 : m ≤ 8 := by omega
  have hn12 : n ≤ 12 := by have := (tri_at htr).1; have := HN.out; omega
  have hcap : 1 ≤ cap ∧ cap ≤ 10000 := inB_true hcb
  have CT1 := Lib.hid (CT.out W1 HB1.out)
  rw [htr] at CT1
  rw [hcb] at CI
  clear htr hcb CT hn8
  go_enter Try.func48, Try.ntmps48
  go_wp2_with fail
  try rw [hW1]
  try rw [hg0]
  refine CT1.out.mono ?_
  rintro e w1 ⟨rfl, hb1⟩
  have HB2 := Lib.hid (HB1.out.trans (hb1.mono HB1.out.size))
  have HL2 := Lib.hid (HLIT0.out.moved hb1)
  clear hb1 HLIT0 hW1 CT1 hg0
  go_wp2_with fail
  refine (CI.out _).mono ?_
  rintro e w2 ⟨rfl, rfl⟩
  clear CI
  go_wp2
  go_loopw [9] (fun i wr => ∃ k : Nat, k ≤ n ∧ i = .int .i64 k ∧ Hid (∀ t, t < k → (q3n qs t).c ≤ cap) ∧ wr = w1) (fun i _ => n - (intOf i).toNat)
  case atStart => exact ⟨0, Nat.zero_le _, rfl, Lib.hid (fun t h => absurd h (by omega)), rfl⟩
  case round =>
    obtain ⟨k, hk, rfl, HC, rfl⟩ := hrel
    by_cases hlt : k < n
    case pos =>
      have hkq : k < qs.length := by have := HN.out; omega
      obtain ⟨q, hq⟩ : ∃ q, qs[k]'hkq = q := ⟨_, rfl⟩
      have HQ := Lib.hid (q3n_at hkq hq)
      have hrc := (HR.out.moved HB2.out).q3c hkq
      rw [Nat.zero_add, hq] at hrc
      obtain ⟨hg, f0, f1, f2⟩ := hrc
      by_cases hcq : cap < q.c
      case pos =>
        have HE := Lib.hid (HNO.out (by unfold gdOk; rw [cap_no hkq (by rw [HQ.out]; exact hcq), Bool.and_false]))
        clear hq hkq
        go_wp2
        go_ret2
        exact ⟨some ⟨g0, 0, none⟩, 0, 0, [], by rw [HE.out.2]; rfl, Lib.hid HE.out.1.symm, HL2.out, HB2.out⟩
      case neg =>
        have HC2 : Hid (∀ t, t < k + 1 → (q3n qs t).c ≤ cap) := Lib.hid (fun t h => by
          by_cases e : t = k
          · subst e; rw [HQ.out]; omega
          · exact HC.out t (by omega))
        clear hq hkq
        go_wp2
        go_roundw
        case rel => exact ⟨k + 1, by omega, by go_num, HC2, by simp⟩
        case measure => simp [intOf]; omega
    case neg =>
    have HOKB : Hid (gdOk qs (m : Int) cap = true) := Lib.hid (by unfold gdOk; rw [HTR.out, cap_yes HCB.out (fun t ht => HC.out t (by have := HN.out; omega))]; rfl)
    have HOK := Lib.hid (gd_yes HOKB.out)
    have hkn : ¬ (k : Int) < (n : Int) := by omega
    clear HC hlt HNO
    go_wp2
    go_loopw [8, 10] (fun v i wi => ∃ (k : Nat) (A : Option Addr) (N d : Nat) (ys : List Rw), k ≤ m ∧ i = .int .i64 k ∧ v = .slice A N d ∧ Hid (ys.map Rw.zs = gdI cap qs (m : Int) k) ∧ Hid (Rws w.heap.size A N d ys wi) ∧ Hid (Below w.heap.size w wi)) (fun _ i _ => m - (intOf i).toNat)
    case atStart => exact ⟨0, some ⟨g0, 0, none⟩, 0, 0, [], Nat.zero_le _, rfl, rfl, Lib.hid rfl, HL2, HB2⟩
    case round =>
      clear HL2
      rename_i wq
      obtain ⟨k, A, N, d, ys, hk, rfl, rfl, HY, HRW, HB⟩ := hrel
      by_cases hlt : k < m
      case neg =>
        obtain rfl : k = m := by omega
        have HE : Hid (ys.map Rw.zs = RL ∧ true = RB) := Lib.hid ⟨by rw [HY.out, ← HRL.out, HOK.out.1, Int.toNat_natCast], HOK.out.2.symm.trans HRB.out⟩
        clear hlt
        go_wp2
        go_ret2
        exact ⟨A, N, d, ys, by rw [← HE.out.2]; rfl, Lib.hid HE.out.1, HRW.out, HB.out⟩
      case pos =>
      have hkI : (k : Int) < (m : Int) := by omega
      go_wp2
      go_loopw [8, 11] (fun v i wi => ∃ (j b : Nat) (A : Option Addr) (N d : Nat) (ys : List Rw), b ≤ m ∧ i = .int .i64 b ∧ v = .slice A N d ∧ Hid (b = k + 1 + j) ∧ Hid (ys.map Rw.zs = gdI cap qs (m : Int) k ++ gdJ cap qs (k : Int) j) ∧ Hid (Rws w.heap.size A N d ys wi) ∧ Hid (Below w.heap.size w wi)) (fun _ i _ => m - (intOf i).toNat)
      case atStart => exact ⟨0, k + 1, A, N, d, ys, by omega, by go_num, rfl, Lib.hid rfl, Lib.hid (by rw [HY.out]; simp [gdJ]), HRW, HB⟩
      case round =>
        clear HY HRW HB
        obtain ⟨j, b, A2, N2, d2, zs, hb9, rfl, rfl, HJ, HY, HRW, HB⟩ := hrel
        by_cases hlb : b < m
        case neg =>
          obtain rfl : b = m := by omega
          have HY2 : Hid (zs.map Rw.zs = gdI cap qs (b : Int) (k + 1)) := Lib.hid (by
            rw [HY.out]
            show _ = gdI cap qs (b : Int) k ++ gdJ cap qs (k : Int) ((b : Int) - 1 - (k : Int)).toNat
            rw [show ((b : Int) - 1 - (k : Int)).toNat = j by have := HJ.out; omega])
          go_wp2
          go_roundw
          case rel => exact ⟨k + 1, A2, N2, d2, zs, by omega, by go_num, rfl, HY2, HRW, HB⟩
          case measure => simp [intOf]; omega
        case pos =>
        have hkb : k < b := by have := HJ.out; omega
        obtain ⟨g8, hg8⟩ : ∃ g, wr.heap.size = g := ⟨_, rfl⟩
        have HG8 : Hid (w.heap.size ≤ g8) := Lib.hid (by rw [← hg8]; exact HB.out.size)
        go_wp2
        go_loopw [12, 13] (fun v i wi => ∃ (t : Nat) (A3 : Option Addr) (N3 d3 : Nat), t ≤ n ∧ i = .int .i64 t ∧ v = .slice A3 N3 d3 ∧ Hid (N3 = (gdK qs (k : Int) (b : Int) t).length) ∧ Hid (wi.ownsRow g8 3 1 (.slice A3 N3 d3) N3 ((gdK qs (k : Int) (b : Int) t).map (Value.int .i64))) ∧ Hid (Rws w.heap.size A2 N2 d2 zs wi) ∧ Hid (Below w.heap.size w wi) ∧ Hid (g8 ≤ wi.heap.size) ∧ Hid (∀ y ∈ zs, Apart y.val (.slice A3 N3 d3))) (fun _ i _ => n - (intOf i).toNat)
        case atStart =>
          have h9 := World.ownsRow_lit (base := wr.heap.size) (e := 3) (size := 1) wr #[] 0 (Nat.le_refl _) (by unfold maxLen; omega) rfl
          have h8 : (wr.alloc (Obj.cells #[] 3)).ownsRow wr.heap.size 3 1 (.slice (some ⟨wr.heap.size, 0, none⟩) 0 0) 0 [] := by simpa using h9
          rw [hg8] at h8
          exact ⟨0, some ⟨g8, 0, none⟩, 0, 0, Nat.zero_le _, rfl, rfl, Lib.hid rfl, Lib.hid h8, Lib.hid (HRW.out.alloc _), Lib.hid (HB.out.alloc HB.out.size _), Lib.hid (by rw [← hg8]; simp), Lib.hid (HRW.out.newer (y := ⟨some ⟨g8, 0, none⟩, 0, 0, []⟩) ⟨rfl, h8⟩ (Nat.le_of_eq hg8))⟩
        case round =>
          clear HRW HB hg8
          obtain ⟨t, A3, N3, d3, ht, rfl, rfl, HN3, HO3, HRW, HB, HZ, HAP⟩ := hrel
          by_cases hlt3 : t < n
          case pos =>
            have hkq : t < qs.length := by have := HN.out; omega
            obtain ⟨q, hq⟩ : ∃ q, qs[t]'hkq = q := ⟨_, rfl⟩
            have HQ := Lib.hid (q3n_at hkq hq)
            have hrc := (HR.out.moved HB.out).q3c hkq
            rw [Nat.zero_add, hq] at hrc
            obtain ⟨hg, f0, f1, f2⟩ := hrc
            have hN3 : N3 ≤ 1048576 := by have := HN3.out; have := gdK_len qs (k : Int) (b : Int) t; omega
            have HGB := Lib.hid (gdB_mm (q := q) hkb)
            have CL := Lib.hid (fun U => leastG q.a q.b U)
            have CM := Lib.hid (fun U => most_ q.a q.b U)
            obtain ⟨mn, hmn⟩ : ∃ x, min q.a q.b = x := ⟨_, rfl⟩
            obtain ⟨mx, hmx⟩ : ∃ x, max q.a q.b = x := ⟨_, rfl⟩
            rw [hmn] at CL HGB; rw [hmx] at CM HGB
            have htI : (t : Int) < (n : Int) := by omega
            clear hmn hmx hq hkq
            go_upto_region 19 with fail
            go_cut [87] (fun s87 wx => s87 = .bool (gdB q (k : Int) (b : Int)) ∧ Hid (Below wr.heap.size wr wx))
            case first =>
              by_cases h1 : mn = (k : Int)
              case pos =>
                have e1 : (mn == (k : Int)) = true := by simpa using h1
                by_cases h2 : mx = (b : Int)
                case pos =>
                  have e2 : (mx == (b : Int)) = true := by simpa using h2
                  go_quiet ((first | (go_at_call 122; exact Calls.quiet_of_same (CL.out _)) | (go_at_call 123; exact Calls.quiet_of_same (CM.out _))))
                  go_wp2_with fail
                  go_meet
                  exact ⟨by rw [HGB.out, decide_eq_true h1, decide_eq_true h2]; rfl, Lib.hid (drewN_below (Below.refl _ _) _)⟩
                case neg =>
                  have e2 : (mx == (b : Int)) = false := beq_eq_false_iff_ne.2 h2
                  go_quiet ((first | (go_at_call 122; exact Calls.quiet_of_same (CL.out _)) | (go_at_call 123; exact Calls.quiet_of_same (CM.out _))))
                  go_wp2_with fail
                  go_meet
                  exact ⟨by rw [HGB.out, decide_eq_true h1, decide_eq_false h2]; rfl, Lib.hid (drewN_below (Below.refl _ _) _)⟩
              case neg =>
                have e1 : (mn == (k : Int)) = false := beq_eq_false_iff_ne.2 h1
                go_quiet ((first | (go_at_call 122; exact Calls.quiet_of_same (CL.out _)) | (go_at_call 123; exact Calls.quiet_of_same (CM.out _))))
                go_wp2_with fail
                go_meet
                exact ⟨by rw [HGB.out, decide_eq_false h1]; rfl, Lib.hid (drewN_below (Below.refl _ _) _)⟩
            case rest =>
            revert hcut; generalize wc = wx; intro hcut
            obtain ⟨rfl, HBX⟩ := hcut
            have HOX := Lib.hid (ownB HO3.out HBX.out)
            have HRX := Lib.hid (HRW.out.moved HBX.out)
            have HBW := Lib.hid (HB.out.trans (HBX.out.mono HB.out.size))
            have HZX : Hid (g8 ≤ wx.heap.size) := Lib.hid (Nat.le_trans HZ.out HBX.out.size)
            have hgx : g3 < wx.heap.size := Nat.lt_of_lt_of_le hg HBX.out.size
            have x2 := (HBX.out.cell (p := ⟨g3, t * 3 + 2, none⟩) hg).trans f2
            clear f0 f1 f2 hg
            cases hb : gdB q (k : Int) (b : Int)
            case false =>
              have HS := Lib.hid (gdK_stay (qs := qs) (a := (k : Int)) (b := (b : Int)) (t := t) (by rw [HQ.out]; exact hb))
              clear hb
              go_wp2
              go_roundw
              case rel => exact ⟨t + 1, A3, N3, d3, by omega, by go_num, rfl, Lib.hid (by rw [HS.out]; exact HN3.out), Lib.hid (by rw [HS.out]; exact HOX.out), HRX, HBW, HZX, HAP⟩
              case measure => simp [intOf]; omega
            case true =>
              have HS := Lib.hid (gdK_snoc (qs := qs) (a := (k : Int)) (b := (b : Int)) (t := t) (by rw [HQ.out]; exact hb))
              rw [HQ.out] at HS
              clear hb
              go_wp2_with (at_builtin; refine wp_app rfl (.tmp 88) (.tmp 94) 26 3 rfl g8 Try.underlying26 Try.inf_int rfl (by decide) (by decide) _ N3 _ rfl (HOX.out.alloc _) _ _ [.int .i64 q.c] rfl rfl (news1 (new_at_ _ _ _ _ rfl)) (news_int _) (by omega) (by have := HZX.out; simp; omega) ?_)
              intro A5 d5 N5 w5 hN5 hown5 hgrow5 hloc5
              have HB5 : Hid (Below w.heap.size w w5) := Lib.hid ((HBW.out.alloc HBW.out.size _).grown hgrow5 (by have := HBW.out.size; simp; omega) (fun g hg => Nat.le_trans HG8.out (HOX.out.lt g hg).1))
              have HO5 : Hid (w5.ownsRow g8 3 1 (.slice A5 N5 d5) N5 ((gdK qs (k : Int) (b : Int) (t + 1)).map (Value.int .i64))) := Lib.hid (by rw [HS.out, List.map_append]; exact hown5)
              have HN5 : Hid (N5 = (gdK qs (k : Int) (b : Int) (t + 1)).length) := Lib.hid (by rw [HS.out, List.length_append, ← HN3.out]; exact hN5)
              have HR5 : Hid (Rws w.heap.size A2 N2 d2 zs w5) := Lib.hid ((HRX.out.alloc _).grown (HOX.out.alloc _) HAP.out hgrow5)
              have HAP5 := Lib.hid (HRX.out.loc HAP.out hloc5 (by simp))
              have HZ5 : Hid (g8 ≤ w5.heap.size) := Lib.hid (by have h1 := HZX.out; have h2 := hgrow5.size; simp at h2; omega)
              clear hown5 hgrow5 hloc5 hN5
              go_wp2
              go_roundw
              case rel => exact ⟨t + 1, A5, N5, d5, by omega, by go_num, rfl, HN5, HO5, HR5, HB5, HZ5, HAP5⟩
              case measure => simp [intOf]; omega
          case neg =>
          have hkn3 : ¬ (t : Int) < (n : Int) := by omega
          obtain rfl : n = t := by omega
          obtain ⟨G, hG⟩ : ∃ G, gdK qs (k : Int) (b : Int) n = G := ⟨_, rfl⟩
          have HG := Lib.hid hG
          have HGL : Hid (G.length ≤ 12) := Lib.hid (by rw [← hG]; have := gdK_len qs (k : Int) (b : Int) n; omega)
          have HRP : Hid (ratesP cap G) := Lib.hid (by have h9 := gd_rates HOKB.out (k : Int) (b : Int); rw [HN.out, hG] at h9; exact h9)
          rw [hG] at HN3 HO3
          clear hG
          have HJ2 : Hid (gdJ cap qs (k : Int) (j + 1) = gdJ cap qs (k : Int) j ++ gdW cap qs (k : Int) (b : Int)) := Lib.hid (by
            show gdJ cap qs (k : Int) j ++ gdW cap qs (k : Int) ((k : Int) + 1 + (j : Int)) = _
            rw [show ((k : Int) + 1 + (j : Int)) = (b : Int) by have := HJ.out; omega])
          by_cases h0 : 0 < N3
          case neg =>
            have h0I : ¬ (0 : Int) < (N3 : Int) := by omega
            have HY5 : Hid (zs.map Rw.zs = gdI cap qs (m : Int) k ++ gdJ cap qs (k : Int) (j + 1)) := Lib.hid (by
              rw [HY.out, HJ2.out]
              unfold gdW
              rw [if_pos (by rw [HN.out, HG.out]; exact List.eq_nil_of_length_eq_zero (by have := HN3.out; omega)), List.append_nil])
            clear h0
            go_wp2
            go_roundw
            case rel => exact ⟨j + 1, b + 1, A2, N2, d2, zs, by omega, by go_num, rfl, Lib.hid (by have := HJ.out; omega), HY5, HRW, HB⟩
            case measure => simp [intOf]; omega
          case pos =>
          have h0I : (0 : Int) < (N3 : Int) := by omega
          have hN2 : N2 ≤ 1048576 := by
            have h1 := HRW.out.len
            have h2 := congrArg List.length HY.out
            rw [List.length_map, List.length_append] at h2
            have h3 := (gdI_len cap qs (m : Int) (by omega) k).1
            have h4 := (gdJ_len cap qs (k : Int) j).1
            have := HJ.out
            omega
          have CO := Lib.hid (l18OrderD_ (A := A3) (n := N3) (c0 := d3) (wx := wr) (by have := HN3.out; have := HGL.out; omega) HN3.out.symm (Rd.ofOwn HO3.out))
          go_wp2_with fail
          refine CO.out.mono ?_
          rintro e w3 ⟨g, c3, rfl, ho3, hb3⟩
          have HB3 := Lib.hid (HB.out.trans (hb3.mono HB.out.size))
          have HRW3 := Lib.hid (HRW.out.moved hb3)
          have CP := Lib.hid (l18PackR_ (A := A3) (c := d3) (c2 := c3) (w := w3) cap HN3.out.symm (Rd.ofOwn (ownB HO3.out hb3)) HRP.out (by rw [← HN3.out]; exact ordD_ok G N3) (Rd.ofOwn ho3) (ho3.lt g rfl).2)
          have HU : Hid ((((roomK cap (ratM G (ordD G N3)) N3).length : Nat) : Int) = gdN cap G) := Lib.hid (by rw [HN3.out]; rfl)
          have hgn := gdN_in cap G
          rw [HU.out] at CP
          obtain ⟨u, hu⟩ : ∃ x, gdN cap G = x := ⟨_, rfl⟩
          have HY5 : Hid (zs.map Rw.zs ++ [[(k : Int), (b : Int), u]] = gdI cap qs (m : Int) k ++ gdJ cap qs (k : Int) (j + 1)) := Lib.hid (by
            rw [HY.out, HJ2.out, List.append_assoc]
            unfold gdW
            rw [if_neg (by rw [HN.out, HG.out]; intro e9; rw [e9] at HN3; have := HN3.out; simp at this; omega), HN.out, HG.out, hu])
          rw [hu] at CP
          clear hb3 ho3 CO hu h0
          go_wp2_with fail
          refine CP.out.mono ?_
          rintro e w5 ⟨rfl, ho5, hb5⟩
          have HB5 := Lib.hid (HB3.out.trans (hb5.mono HB3.out.size))
          have HRW5 := Lib.hid (HRW3.out.moved hb5)
          clear hb5 ho5 CP HRW HRW3
          have HLIT : Hid (RwOwn w5.heap.size (w5.alloc (Obj.cells #[.int .i64 (k : Int), .int .i64 (b : Int), .int .i64 u] 3)) ⟨some ⟨w5.heap.size, 0, none⟩, 3, 3, [(k : Int), (b : Int), u]⟩) := Lib.hid ⟨rfl, World.ownsRow_lit (base := w5.heap.size) (e := 3) (size := 1) w5 #[.int .i64 (k : Int), .int .i64 (b : Int), .int .i64 u] 3 (Nat.le_refl _) (by unfold maxLen; omega) rfl⟩
          have HRA := Lib.hid ((HRW5.out.alloc (Obj.cells #[.int .i64 (k : Int), .int .i64 (b : Int), .int .i64 u] 3)).alloc (Obj.cells #[.slice (some ⟨w5.heap.size, 0, none⟩) 3 3] 26))
          have HLA := Lib.hid (((HLIT.out.base HB5.out.size).moved ((Below.refl _ _).alloc (Nat.le_refl _) (Obj.cells #[.slice (some ⟨w5.heap.size, 0, none⟩) 3 3] 26))))
          go_wp2_with (at_builtin; refine wp_app rfl (.tmp 107) (.tmp 112) 88 26 rfl w.heap.size Try.underlying88 Try.inf_ss rfl (by decide) (by decide) _ N2 _ rfl HRA.out.row _ _ [.slice (some ⟨w5.heap.size, 0, none⟩) 3 3] rfl rfl (news1 (new_at_ _ _ _ _ (by simp))) (news_sl _ _ _) (by omega) (by have := HB5.out.size; simp; omega) ?_)
          intro A6 d6 N6 w6 hN6 hown6 hgrow6 hloc6
          have HAP6 : Hid (∀ z ∈ zs, Apart z.val (Rw.mk (some ⟨w5.heap.size, 0, none⟩) 3 3 [(k : Int), (b : Int), u]).val) := Lib.hid (HRW5.out.newer HLIT.out (Nat.le_refl _))
          have HR6 : Hid (Rws w.heap.size A6 N6 d6 (zs ++ [⟨some ⟨w5.heap.size, 0, none⟩, 3, 3, [(k : Int), (b : Int), u]⟩]) w6) := Lib.hid (HRA.out.push HLA.out HAP6.out hN6 hown6 hgrow6)
          have HB6 := Lib.hid (((HB5.out.alloc HB5.out.size _).alloc (by have := HB5.out.size; simp; omega) _).grown hgrow6 (by have := HB5.out.size; simp; omega) (fun g hg => (HRA.out.row.lt g hg).1))
          have HY6 : Hid ((zs ++ [Rw.mk (some ⟨w5.heap.size, 0, none⟩) 3 3 [(k : Int), (b : Int), u]]).map Rw.zs = gdI cap qs (m : Int) k ++ gdJ cap qs (k : Int) (j + 1)) := Lib.hid (by rw [List.map_append]; exact HY5.out)
          clear hown6 hgrow6 hloc6 hN6
          go_wp2
          go_roundw
          case rel => exact ⟨j + 1, b + 1, A6, N6, d6, _, by omega, by go_num, rfl, Lib.hid (by have := HJ.out; omega), HY6, HR6, HB6⟩
          case measure => simp [intOf]; omega
end Go.Proofs.Ytlgkjidginibdaa
