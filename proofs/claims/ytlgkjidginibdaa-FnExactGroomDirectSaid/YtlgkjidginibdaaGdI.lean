/- Direct grooming: contract of impl.GroomDirect. No condition but those typed. -/
import Derived.Test.YtlgkjidginibdaaGdR
import Derived.Test.YtlgkjidginibdaaGdS
import Derived.Test.YtlgkjidginibdaaPdD
import Derived.Test.YtlgkjidginibdaaRws
import Derived.Test.YtlgkjidginibdaaShelf
namespace Go.Proofs.Ytlgkjidginibdaa
open Go.ChangeShapes Go.WideShapes Go.ChangeAt Go.RowKit

theorem tri_in {n : Int} {q : Q3} (h : triAt n q = true) : (0 ≤ q.a ∧ q.a ≤ n - 1) ∧ (0 ≤ q.b ∧ q.b ≤ n - 1) ∧ q.a ≠ q.b ∧ 1 ≤ q.c ∧ q.c ≤ 1000 := by
  unfold triAt pairB at h
  rw [Bool.and_eq_true, Bool.and_eq_true, Bool.and_eq_true] at h
  exact ⟨inB_true h.1.1.1, inB_true h.1.1.2, by simpa using h.1.2, inB_true h.2⟩
theorem gdK_has {qs : List Q3} {a b : Int} {t : Nat} (h : gdB (q3n qs t) a b = true) : ∀ m, t < m → (q3n qs t).c ∈ gdK qs a b m
  | 0, hm => absurd hm (by omega)
  | m + 1, hm => by
    by_cases e : t = m
    · subst e; rw [gdK_snoc h]; simp
    · have ih := gdK_has h m (by omega)
      cases hb : gdB (q3n qs m) a b
      · rw [gdK_stay hb]; exact ih
      · rw [gdK_snoc hb]; exact List.mem_append_left _ ih
theorem tri_at {qs : List Q3} {n : Int} (h : triB qs n = true) : qs.length ≤ 12 ∧ ∀ t, t < qs.length → triAt n (q3n qs t) = true := by
  unfold triB at h
  rw [Bool.and_eq_true, Bool.and_eq_true] at h
  refine ⟨of_decide_eq_true h.1.2, fun t ht => ?_⟩
  have h9 := List.all_eq_true.1 h.2 qs[t] (List.getElem_mem ht)
  rwa [q3n_at ht rfl]
theorem ratesP_of {cap : Int} {L : List Int} (h1 : L.length ≤ 12) (h2 : 1 ≤ cap ∧ cap ≤ 10000) (h3 : ∀ v ∈ L, 1 ≤ v ∧ v ≤ cap) : ratesP cap L := ⟨h1, h2, fun k hk => h3 _ (by rw [List.getD_eq_getElem?_getD, List.getElem?_eq_getElem hk]; exact List.getElem_mem hk)⟩
theorem ratesP_mem {cap : Int} {L : List Int} (h : ratesP cap L) {v : Int} (hv : v ∈ L) : 1 ≤ v ∧ v ≤ cap := by
  obtain ⟨i, hi, e⟩ := List.mem_iff_getElem.1 hv
  have h9 := h.2.2 i hi
  rw [List.getD_eq_getElem?_getD, List.getElem?_eq_getElem hi, Option.getD_some, e] at h9
  exact h9
theorem gd_ok {qs : List Q3} {n : Nat} {cap : Int} (h : triB qs (n : Int) = true) (hr : ∀ a b : Nat, a < b → b < n → ratesP cap (gdK qs (a : Int) (b : Int) qs.length)) : gdOk qs (n : Int) cap = true := by
  have hn := triB_n8 h
  have ht := tri_at h
  unfold gdOk capAll
  have h01 := hr 0 1 (by omega) (by omega)
  rw [h, Bool.true_and, show inB cap 1 10000 = true from decide_eq_true h01.2.1, Bool.true_and, List.all_eq_true]
  intro q hq
  obtain ⟨t, htl, e⟩ := List.mem_iff_getElem.1 hq
  have hat := ht.2 t htl
  rw [q3n_at htl e] at hat
  have hT := tri_in hat
  refine decide_eq_true ?_
  obtain ⟨a, ha⟩ : ∃ a : Nat, q.a = (a : Int) := ⟨q.a.toNat, by omega⟩
  obtain ⟨b, hb⟩ : ∃ b : Nat, q.b = (b : Int) := ⟨q.b.toNat, by omega⟩
  have hq9 := q3n_at htl e
  by_cases hab : a < b
  · have h9 := gdK_has (qs := qs) (a := (a : Int)) (b := (b : Int)) (t := t) (by unfold gdB; rw [hq9, ha, hb]; simp) qs.length htl
    rw [hq9] at h9
    exact (ratesP_mem (hr a b hab (by omega)) h9).2
  · have h9 := gdK_has (qs := qs) (a := (b : Int)) (b := (a : Int)) (t := t) (by unfold gdB; rw [hq9, ha, hb]; simp) qs.length htl
    rw [hq9] at h9
    exact (ratesP_mem (hr b a (by omega) (by omega)) h9).2
theorem gd_rates {qs : List Q3} {n cap : Int} (h : gdOk qs n cap = true) (a b : Int) : ratesP cap (gdK qs a b qs.length) := by
  unfold gdOk capAll at h
  rw [Bool.and_eq_true, Bool.and_eq_true] at h
  have ht := tri_at h.1
  refine ratesP_of (by have := gdK_len qs a b qs.length; have := ht.1; omega) (inB_true h.2.1) (gdK_in (fun t htl => ?_) _ (Nat.le_refl _))
  have hat := ht.2 t htl
  have hT := tri_in hat
  have h9 := of_decide_eq_true (List.all_eq_true.1 h.2.2 qs[t] (List.getElem_mem htl))
  rw [q3n_at htl rfl] at hT ⊢
  omega
theorem max_own {w : World} {B N d : Nat} {A : Option Addr} {zs : List Int} (h : w.ownsRow B 3 1 (.slice A N d) N (zs.map (Value.int .i64))) (hN : N = zs.length) (h0 : 0 < N) (hs : N ≤ 1048576) : Calls Try.prog 130 #[.slice A N d] w fun e w' => e = .returned (.int .i64 (Lib.maxOf zs)) ∧ w' = w := by
  obtain ⟨g, rfl⟩ := own_some h h0
  have h9 := Try.slices_Max_int g 0 N d zs w h0 (by omega) (by omega) (fun j hj => by
    have h1 := h.cellAt j (by omega)
    rw [List.getElem?_map, List.getElem?_eq_getElem hj] at h1
    rw [Nat.zero_add, h1, List.getD_eq_getElem?_getD, List.getElem?_eq_getElem hj]
    rfl)
  rw [List.take_of_length_le (by omega)] at h9
  exact h9
set_option maxRecDepth 100000 in
set_option maxHeartbeats 8000000 in
theorem implGD {g3 n c : Nat} {qs : List Q3} {w : World} (hn : qs.length = n) (hr : Rd w w.heap.size (some ⟨g3, 0, none⟩) (qs.flatMap Q3.cells)) (hs : n ≤ 1048576) (nodes cap : Int) :
    Calls Try.prog 50 #[.slice (some ⟨g3, 0, none⟩) n c, .int .i64 nodes, .int .i64 cap] w (RowsP (gdL qs nodes cap) (gdOk qs nodes cap) w) := by
  have HN := Lib.hid hn; have HR := Lib.hid hr
  have CT := Lib.hid (implTri g3 n c qs nodes w hn hs hr)
  obtain ⟨RL, hRL⟩ : ∃ r, gdL qs nodes cap = r := ⟨_, rfl⟩
  obtain ⟨RB, hRB⟩ : ∃ r, gdOk qs nodes cap = r := ⟨_, rfl⟩
  have HRL := Lib.hid hRL; have HRB := Lib.hid hRB
  rw [hRL, hRB]
  clear hRL hRB hn hr
  cases htr : triB qs nodes
  case false =>
    have HE : Hid (RL = [] ∧ RB = false) := Lib.hid (by
      have h9 := gd_no (qs := qs) (n := nodes) (cap := cap) (by unfold gdOk; rw [htr]; rfl)
      exact ⟨HRL.out.symm.trans h9.1, HRB.out.symm.trans h9.2⟩)
    rw [htr] at CT
    clear htr
    go_enter Try.func50, Try.ntmps50
    go_wp2_with fail
    refine CT.out.mono ?_
    rintro e w1 ⟨rfl, hb1⟩
    go_wp2
    go_ret2
    exact rows_no HE.out hb1
  case true =>
  have HTR := Lib.hid htr
  have hn8 := triB_n8 htr
  obtain ⟨m, rfl⟩ : ∃ m : Nat, nodes = (m : Int) := ⟨nodes.toNat, by omega⟩
  have hm8 : m ≤ 8 := by omega
  have hn12 : n ≤ 12 := by have := (tri_at htr).1; have := HN.out; omega
  rw [htr] at CT
  clear htr hn8
  go_enter Try.func50, Try.ntmps50
  go_wp2_with fail
  refine CT.out.mono ?_
  rintro e w1 ⟨rfl, hb1⟩
  have HB1 := Lib.hid hb1
  clear hb1
  go_wp2
  go_loopw [8, 18] (fun v i wr => ∃ (k : Nat) (A : Option Addr) (N d : Nat) (ys : List Rw), k ≤ m ∧ i = .int .i64 k ∧ v = .slice A N d ∧ Hid (ys.map Rw.zs = gdI cap qs (m : Int) k) ∧ Hid (Rws w.heap.size A N d ys wr) ∧ Hid (∀ a b : Nat, a < k → a < b → b < m → ratesP cap (gdK qs (a : Int) (b : Int) n)) ∧ Hid (Below w.heap.size w wr)) (fun _ i _ => m - (intOf i).toNat)
  case atStart => exact ⟨0, none, 0, 0, [], Nat.zero_le _, rfl, rfl, Lib.hid rfl, Lib.hid (Rws.nil _ _), Lib.hid (fun a b h => absurd h (by omega)), HB1⟩
  case round =>
    obtain ⟨k, A, N, d, ys, hk, rfl, rfl, HY, HRW, HA, HB⟩ := hrel
    by_cases hlt : k < m
    case neg =>
      obtain rfl : k = m := by omega
      have HOK := Lib.hid (gd_yes (gd_ok (cap := cap) HTR.out (fun a b h1 h2 => by rw [HN.out]; exact HA.out a b (by omega) h1 h2)))
      have HE : Hid (ys.map Rw.zs = RL ∧ true = RB) := Lib.hid ⟨by rw [HY.out, ← HRL.out, HOK.out.1, Int.toNat_natCast], HOK.out.2.symm.trans HRB.out⟩
      clear hlt
      go_wp2
      go_ret2
      exact ⟨A, N, d, ys, by rw [← HE.out.2]; rfl, Lib.hid HE.out.1, HRW.out, HB.out⟩
    case pos =>
    have hkI : (k : Int) < (m : Int) := by omega
    go_wp2
    go_loopw [8, 10] (fun v i wi => ∃ (j b : Nat) (A : Option Addr) (N d : Nat) (ys : List Rw), b ≤ m ∧ i = .int .i64 b ∧ v = .slice A N d ∧ Hid (b = k + 1 + j) ∧ Hid (ys.map Rw.zs = gdI cap qs (m : Int) k ++ gdJ cap qs (k : Int) j) ∧ Hid (Rws w.heap.size A N d ys wi) ∧ Hid (∀ b2 : Nat, k < b2 → b2 < b → ratesP cap (gdK qs (k : Int) (b2 : Int) n)) ∧ Hid (Below w.heap.size w wi)) (fun _ i _ => m - (intOf i).toNat)
    case atStart => exact ⟨0, k + 1, A, N, d, ys, by omega, by go_num, rfl, Lib.hid rfl, Lib.hid (by rw [HY.out]; simp [gdJ]), HRW, Lib.hid (fun b2 h1 h2 => absurd h1 (by omega)), HB⟩
    case round =>
      clear HY HRW HB
      obtain ⟨j, b, A2, N2, d2, zs, hb9, rfl, rfl, HJ, HY, HRW, HA2, HB⟩ := hrel
      by_cases hlb : b < m
      case neg =>
        obtain rfl : b = m := by omega
        have HY2 : Hid (zs.map Rw.zs = gdI cap qs (b : Int) (k + 1)) := Lib.hid (by
          rw [HY.out]
          show _ = gdI cap qs (b : Int) k ++ gdJ cap qs (k : Int) ((b : Int) - 1 - (k : Int)).toNat
          rw [show ((b : Int) - 1 - (k : Int)).toNat = j by have := HJ.out; omega])
        have HA3 : Hid (∀ a b2 : Nat, a < k + 1 → a < b2 → b2 < b → ratesP cap (gdK qs (a : Int) (b2 : Int) n)) := Lib.hid (fun a b2 h1 h2 h3 => by
          by_cases e : a = k
          · subst e; exact HA2.out b2 h2 h3
          · exact HA.out a b2 (by omega) h2 h3)
        go_wp2
        go_roundw
        case rel => exact ⟨k + 1, A2, N2, d2, zs, by omega, by go_num, rfl, HY2, HRW, HA3, HB⟩
        case measure => simp [intOf]; omega
      case pos =>
      have hkb : k < b := by have := HJ.out; omega
      have CR := Lib.hid (ratesB_ (c := c) HN.out (HR.out.moved HB.out) hs (k : Int) (b : Int) (by omega))
      obtain ⟨G, hG⟩ : ∃ G, gdK qs (k : Int) (b : Int) n = G := ⟨_, rfl⟩
      have HG := Lib.hid hG
      have HGL : Hid (G.length ≤ 12) := Lib.hid (by rw [← hG]; have := gdK_len qs (k : Int) (b : Int) n; omega)
      rw [hG] at CR
      clear hG
      go_wp2_with fail
      refine CR.out.mono ?_
      rintro e w3 ⟨A3, N3, d3, rfl, HN3, ho3, hb3⟩
      have HB3 := Lib.hid (HB.out.trans (hb3.mono HB.out.size))
      have HRW3 := Lib.hid (HRW.out.moved hb3)
      have CP := Lib.hid (implPD (c := d3) HN3.out.symm (Rd.ofOwn ho3) (by have := HN3.out; have := HGL.out; omega) cap)
      clear hb3 ho3 CR
      go_wp2_with fail
      refine CP.out.mono ?_
      rintro e w4 ⟨A4, N4, d4, rfl, HN4, ho4, hb4⟩
      have HB4 := Lib.hid (HB3.out.trans (hb4.mono HB3.out.size))
      have HRW4 := Lib.hid (HRW3.out.moved hb4)
      have HO4 := Lib.hid ho4
      clear hb4 ho4 CP HRW HRW3
      by_cases hrp : ratesP cap G
      case neg =>
        rw [(pd_no hrp).2]
        have HE : Hid (RL = [] ∧ RB = false) := Lib.hid (by
          have hno : gdOk qs (m : Int) cap = false := by
            cases hq : gdOk qs (m : Int) cap
            · rfl
            · exact absurd (by have h9 := gd_rates hq (k : Int) (b : Int); rw [HN.out, HG.out] at h9; exact h9) hrp
          exact ⟨HRL.out.symm.trans (gd_no hno).1, HRB.out.symm.trans hno⟩)
        clear hrp
        go_wp2
        go_ret2
        exact rows_no HE.out HB4.out
      case pos =>
      rw [(pd_yes hrp).2]
      rw [(pd_yes hrp).1] at HN4 HO4
      have HA4 : Hid (∀ b2 : Nat, k < b2 → b2 < b + 1 → ratesP cap (gdK qs (k : Int) (b2 : Int) n)) := Lib.hid (fun b2 h1 h2 => by
        by_cases e : b2 = b
        · subst e; rw [HG.out]; exact hrp
        · exact HA2.out b2 h1 (by omega))
      have HNG : Hid (N4 = G.length) := Lib.hid (by rw [HN4.out, unP_len])
      have HJ2 : Hid (gdJ cap qs (k : Int) (j + 1) = gdJ cap qs (k : Int) j ++ gdW cap qs (k : Int) (b : Int)) := Lib.hid (by
        show gdJ cap qs (k : Int) j ++ gdW cap qs (k : Int) ((k : Int) + 1 + (j : Int)) = _
        rw [show ((k : Int) + 1 + (j : Int)) = (b : Int) by have := HJ.out; omega])
      clear hrp
      by_cases h0 : 0 < N4
      case neg =>
        have h0I : ¬ (0 : Int) < (N4 : Int) := by omega
        have HY5 : Hid (zs.map Rw.zs = gdI cap qs (m : Int) k ++ gdJ cap qs (k : Int) (j + 1)) := Lib.hid (by
          rw [HY.out, HJ2.out]
          unfold gdW
          rw [if_pos (by rw [HN.out, HG.out]; exact List.eq_nil_of_length_eq_zero (by have := HNG.out; omega)), List.append_nil])
        clear h0
        go_wp2
        go_roundw
        case rel => exact ⟨j + 1, b + 1, A2, N2, d2, zs, by omega, by go_num, rfl, Lib.hid (by have := HJ.out; omega), HY5, HRW4, HA4, HB4⟩
        case measure => simp [intOf]; omega
      case pos =>
        have h0I : (0 : Int) < (N4 : Int) := by omega
        have hN2 : N2 ≤ 1048576 := by
          have h1 := HRW4.out.len
          have h2 := congrArg List.length HY.out
          rw [List.length_map, List.length_append] at h2
          have h3 := (gdI_len cap qs (m : Int) (by omega) k).1
          have h4 := (gdJ_len cap qs (k : Int) j).1
          have := HJ.out
          omega
        have CM := Lib.hid (max_own HO4.out HN4.out h0 (by have := HNG.out; have := HGL.out; omega))
        have HTOP : Hid (Lib.maxOf (unP cap G (ordD G G.length) G.length) + 1 = gdN cap G) := Lib.hid (unP_top (by have := HNG.out; omega))
        have hgn := gdN_in cap G
        obtain ⟨mx, hmx⟩ : ∃ x, Lib.maxOf (unP cap G (ordD G G.length) G.length) = x := ⟨_, rfl⟩
        obtain ⟨u, hu⟩ : ∃ x, gdN cap G = x := ⟨_, rfl⟩
        rw [hmx] at CM HTOP
        rw [hu] at HTOP hgn
        have hmu : mx + 1 = u := HTOP.out
        have hgl := HGL.out
        have HY5 : Hid (zs.map Rw.zs ++ [[(k : Int), (b : Int), u]] = gdI cap qs (m : Int) k ++ gdJ cap qs (k : Int) (j + 1)) := Lib.hid (by
          rw [HY.out, HJ2.out, List.append_assoc]
          unfold gdW
          rw [if_neg (by rw [HN.out, HG.out]; intro e9; rw [e9] at HNG; have := HNG.out; simp at this; omega), HN.out, HG.out, hu])
        clear hmx hu h0
        go_wp2_with fail
        refine CM.out.mono ?_
        rintro e w5 ⟨rfl, rfl⟩
        have HLIT : Hid (RwOwn w5.heap.size (w5.alloc (Obj.cells #[.int .i64 (k : Int), .int .i64 (b : Int), .int .i64 u] 3)) ⟨some ⟨w5.heap.size, 0, none⟩, 3, 3, [(k : Int), (b : Int), u]⟩) := Lib.hid ⟨rfl, World.ownsRow_lit (base := w5.heap.size) (e := 3) (size := 1) w5 #[.int .i64 (k : Int), .int .i64 (b : Int), .int .i64 u] 3 (Nat.le_refl _) (by unfold maxLen; omega) rfl⟩
        have HRA := Lib.hid ((HRW4.out.alloc (Obj.cells #[.int .i64 (k : Int), .int .i64 (b : Int), .int .i64 u] 3)).alloc (Obj.cells #[.slice (some ⟨w5.heap.size, 0, none⟩) 3 3] 26))
        have HLA := Lib.hid (((HLIT.out.base HB4.out.size).moved ((Below.refl _ _).alloc (Nat.le_refl _) (Obj.cells #[.slice (some ⟨w5.heap.size, 0, none⟩) 3 3] 26))))
        go_wp2_with (at_builtin; (try rw [hmu]); refine wp_app rfl (.tmp 42) (.tmp 49) 88 26 rfl w.heap.size Try.underlying88 Try.inf_ss rfl (by decide) (by decide) _ N2 _ rfl HRA.out.row _ _ [.slice (some ⟨w5.heap.size, 0, none⟩) 3 3] rfl rfl (news1 (new_at_ _ _ _ _ (by simp))) (news_sl _ _ _) (by omega) (by have := HB4.out.size; simp; omega) ?_)
        intro A6 d6 N6 w6 hN6 hown6 hgrow6 hloc6
        have HAP : Hid (∀ z ∈ zs, Apart z.val (Rw.mk (some ⟨w5.heap.size, 0, none⟩) 3 3 [(k : Int), (b : Int), u]).val) := Lib.hid (HRW4.out.newer HLIT.out (Nat.le_refl _))
        have HR6 : Hid (Rws w.heap.size A6 N6 d6 (zs ++ [⟨some ⟨w5.heap.size, 0, none⟩, 3, 3, [(k : Int), (b : Int), u]⟩]) w6) := Lib.hid (HRA.out.push HLA.out HAP.out hN6 hown6 hgrow6)
        have HB6 := Lib.hid (((HB4.out.alloc HB4.out.size _).alloc (by have := HB4.out.size; simp; omega) _).grown hgrow6 (by have := HB4.out.size; simp; omega) (fun g hg => (HRA.out.row.lt g hg).1))
        have HY6 : Hid ((zs ++ [Rw.mk (some ⟨w5.heap.size, 0, none⟩) 3 3 [(k : Int), (b : Int), u]]).map Rw.zs = gdI cap qs (m : Int) k ++ gdJ cap qs (k : Int) (j + 1)) := Lib.hid (by rw [List.map_append]; exact HY5.out)
        clear hown6 hgrow6 hloc6 hN6
        go_wp2
        go_roundw
        case rel => exact ⟨j + 1, b + 1, A6, N6, d6, _, by omega, by go_num, rfl, Lib.hid (by have := HJ.out; omega), HY6, HR6, HA4, HB6⟩
        case measure => simp [intOf]; omega
end Go.Proofs.Ytlgkjidginibdaa
