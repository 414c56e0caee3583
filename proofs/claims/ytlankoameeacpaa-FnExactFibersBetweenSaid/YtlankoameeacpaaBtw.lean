/- Contracts: impl.FibersBetween and spec.FibersBetween answer the same list and the same word, in memory of the call's own. No condition but those typed. -/
import Derived.Test.YtlankoameeacpaaIntW
import Derived.Test.YtlankoameeacpaaSet
import Derived.Test.YtlankoameeacpaaWk3
namespace Go.Proofs.Ytlankoameeacpaa
open Go.ChangeShapes Go.WideShapes Go.ChangeAt Go.RowKit

theorem mask_lt {zs : List Int} : ∀ {k : Nat}, (∀ j, j < k → 0 ≤ nth zs j ∧ nth zs j < 20) → maskN zs k < 2 ^ 20
  | 0, _ => Nat.two_pow_pos 20
  | k + 1, h => by
    unfold maskN
    have h0 := h k (by omega)
    exact Nat.or_lt_two_pow (mask_lt (fun j hj => h j (by omega))) (Nat.pow_lt_pow_right (by decide) (by omega))
def acr (zs : List Int) (q : Q4) : Bool := decide (q.a ∈ zs) != decide (q.b ∈ zs)
def btK (fs : List Q4) (zs : List Int) (k : Nat) : List Int := ((List.range k).filter fun i => acr zs (fs.getD i ⟨0, 0, 0, 0⟩)).map fun i : Nat => ((i : Nat) : Int)
theorem btK_step (fs : List Q4) (zs : List Int) (k : Nat) (q : Q4) (hk : k < fs.length) (hq : fs[k] = q) : btK fs zs (k + 1) = btK fs zs k ++ (if acr zs q then [(k : Int)] else []) := by
  unfold btK
  rw [List.range_succ, List.filter_append, List.map_append]
  congr 1
  have e : fs.getD k ⟨0, 0, 0, 0⟩ = q := by rw [List.getD_eq_getElem?_getD, List.getElem?_eq_getElem hk, hq]; rfl
  simp only [List.filter_cons, List.filter_nil, e]
  by_cases h : acr zs q <;> simp [h]
theorem btK_len (fs : List Q4) (zs : List Int) (k : Nat) : (btK fs zs k).length ≤ k := by
  unfold btK; rw [List.length_map]; exact Nat.le_trans (List.length_filter_le _ _) (by simp)
def btP (ss : List ByteArray) (fs : List Q4) (zs : List Int) : Prop := netP ss fs ∧ risB zs ss.length = true
noncomputable def btB (ss : List ByteArray) (fs : List Q4) (zs : List Int) : Bool := pb (btP ss fs zs)
noncomputable def btL (ss : List ByteArray) (fs : List Q4) (zs : List Int) : List Int := if btB ss fs zs then btK fs zs fs.length else []
theorem bt_no {ss : List ByteArray} {fs : List Q4} {zs : List Int} (h : ¬ btP ss fs zs) : btB ss fs zs = false ∧ btL ss fs zs = [] := by
  unfold btL btB; rw [pb_false h]; exact ⟨rfl, rfl⟩
theorem bt_yes {ss : List ByteArray} {fs : List Q4} {zs : List Int} (h : btP ss fs zs) : btB ss fs zs = true ∧ btL ss fs zs = btK fs zs fs.length := by
  unfold btL btB; rw [pb_true h]; exact ⟨rfl, rfl⟩
theorem btL_len (ss : List ByteArray) (fs : List Q4) (zs : List Int) : (btL ss fs zs).length ≤ fs.length := by
  unfold btL; split
  · exact btK_len _ _ _
  · simp
theorem ownDr {w : World} {B E s n : Nat} {v : Value} {xs : List Value} (h : w.ownsRow B E s v n xs) (m : Nat) : (w.drewN m).ownsRow B E s v n xs := h
theorem bit_ne {zs : List Int} {x y : Int} {a b : Int} (ha : a = if x ∈ zs then 1 else 0) (hb : b = if y ∈ zs then 1 else 0) : (a != b) = (decide (x ∈ zs) != decide (y ∈ zs)) := by
  subst ha hb
  by_cases h1 : x ∈ zs <;> by_cases h2 : y ∈ zs <;> simp [h1, h2]

set_option maxRecDepth 100000 in
set_option maxHeartbeats 4000000 in
theorem specBtw {g1 g2 n1 n2 c1 c2 : Nat} {ss : List ByteArray} {fs : List Q4} {w : World} (h : NetAt g1 g2 n1 n2 c1 c2 ss fs w) (A : Option Addr) (n c : Nat) (zs : List Int) (hn : zs.length = n) (hs : n ≤ 1048576) (hr : Rd w w.heap.size A (zs.map (Value.int .i64))) :
    Calls Try.prog 38 #[.agg #[.slice (some ⟨g1, 0, none⟩) n1 c1, .slice (some ⟨g2, 0, none⟩) n2 c2], .slice A n c] w (IntsP (btL ss fs zs) (btB ss fs zs) w) := by
  have hl1 := h.ln1
  have hl2 := h.ln2
  have hsm1 := h.sm1
  have HN := Lib.hid h; clear h
  have HR := Lib.hid hr; clear hr
  have HLN := Lib.hid hn; clear hn
  by_cases hp : netP ss fs
  case neg =>
    have HB : Hid (pb (netP ss fs) = false) := Lib.hid (pb_false hp)
    obtain ⟨e1, e2⟩ := bt_no (zs := zs) fun h => hp h.1
    rw [e1, e2]
    clear e1 e2 hp hl1 hl2
    go_enter Try.func38, Try.ntmps38
    go_wp2_with fail
    obtain ⟨W0, hW0⟩ : ∃ W0, ((w.alloc (Obj.cells #[.slice (some ⟨g1, 0, none⟩) n1 c1, .slice (some ⟨g2, 0, none⟩) n2 c2] 42)).alloc (Obj.cells #[] 3)) = W0 := ⟨_, rfl⟩
    have hk0 : W0.cell? ⟨w.heap.size, 0, none⟩ = some (.slice (some ⟨g1, 0, none⟩) n1 c1) := by rw [← hW0]; simp [go_sem]
    have hk1 : W0.cell? ⟨w.heap.size, 1, none⟩ = some (.slice (some ⟨g2, 0, none⟩) n2 c2) := by rw [← hW0]; simp [go_sem]
    have hz0 : w.heap.size < W0.heap.size := by rw [← hW0]; simp; try omega
    have hown0 : W0.ownsRow (w.heap.size + 1) 3 1 (.slice (some ⟨w.heap.size + 1, 0, none⟩) 0 0) 0 [] := by
      rw [← hW0]
      have := World.ownsRow_lit (base := w.heap.size + 1) (e := 3) (size := 1) (w.alloc (Obj.cells #[.slice (some ⟨g1, 0, none⟩) n1 c1, .slice (some ⟨g2, 0, none⟩) n2 c2] 42)) #[] 0 (by simp) (by unfold maxLen; omega) rfl
      simpa using this
    have HB0 := Lib.hid (((Below.refl w.heap.size w).alloc (Nat.le_refl _) (Obj.cells #[.slice (some ⟨g1, 0, none⟩) n1 c1, .slice (some ⟨g2, 0, none⟩) n2 c2] 42)).alloc (by simp) (Obj.cells #[] 3))
    rw [hW0] at HB0 ⊢
    clear hW0
    have HN0 := Lib.hid (HN.out.moved HB0.out)
    refine (specNet_ HN0.out).mono ?_
    rintro e w1 ⟨rfl, hb1⟩
    rw [HB.out]
    have k0 := (hb1.cell (p := ⟨w.heap.size, 0, none⟩) hz0).trans hk0
    have k1 := (hb1.cell (p := ⟨w.heap.size, 1, none⟩) hz0).trans hk1
    have hbx : w.heap.size < w1.heap.size := Nat.lt_of_lt_of_le hz0 hb1.size
    have HN1 := Lib.hid (HN0.out.moved hb1)
    have hB1 := Lib.hid (HB0.out.trans (hb1.mono HB0.out.size))
    have HO1 := Lib.hid (ownB hown0 hb1)
    clear hk0 hk1 hz0 hb1 HN0 HB0 hown0
    go_wp2
    go_ret2
    exact ⟨_, 0, _, rfl, Lib.hid rfl, own_base HO1.out (by omega), hB1.out⟩
  case pos =>
  have HB : Hid (pb (netP ss fs) = true) := Lib.hid (pb_true hp)
  have HP := Lib.hid hp
  have hn14 : n2 ≤ 14 := by have := hp.2.1; omega
  have hn18 : n1 ≤ 8 := by have := hp.1; omega
  have hn12 : 2 ≤ n1 := by have := hp.1; omega
  have CR : Hid (∀ W : World, Below w.heap.size w W → Calls Try.prog 75 #[.slice A n c, .int .i64 0, .int .i64 ((n1 : Int) - 1)] W (RetV (.bool (risB zs ss.length)) W)) := Lib.hid fun W hb => by
    have := rising_ A n c zs ((n1 : Int) - 1) W HLN.out hs (HR.out.moved hb)
    rw [show (n1 : Int) - 1 + 1 = (ss.length : Int) by omega] at this
    exact this
  cases hris : risB zs ss.length
  case false =>
    rw [hris] at CR
    obtain ⟨e1, e2⟩ := bt_no (ss := ss) (fs := fs) (zs := zs) fun h => by rw [h.2] at hris; cases hris
    rw [e1, e2]
    clear e1 e2 hp hl1 hl2 hris
    go_enter Try.func38, Try.ntmps38
    go_wp2_with fail
    obtain ⟨W0, hW0⟩ : ∃ W0, ((w.alloc (Obj.cells #[.slice (some ⟨g1, 0, none⟩) n1 c1, .slice (some ⟨g2, 0, none⟩) n2 c2] 42)).alloc (Obj.cells #[] 3)) = W0 := ⟨_, rfl⟩
    have hk0 : W0.cell? ⟨w.heap.size, 0, none⟩ = some (.slice (some ⟨g1, 0, none⟩) n1 c1) := by rw [← hW0]; simp [go_sem]
    have hk1 : W0.cell? ⟨w.heap.size, 1, none⟩ = some (.slice (some ⟨g2, 0, none⟩) n2 c2) := by rw [← hW0]; simp [go_sem]
    have hz0 : w.heap.size < W0.heap.size := by rw [← hW0]; simp; try omega
    have hown0 : W0.ownsRow (w.heap.size + 1) 3 1 (.slice (some ⟨w.heap.size + 1, 0, none⟩) 0 0) 0 [] := by
      rw [← hW0]
      have := World.ownsRow_lit (base := w.heap.size + 1) (e := 3) (size := 1) (w.alloc (Obj.cells #[.slice (some ⟨g1, 0, none⟩) n1 c1, .slice (some ⟨g2, 0, none⟩) n2 c2] 42)) #[] 0 (by simp) (by unfold maxLen; omega) rfl
      simpa using this
    have HB0 := Lib.hid (((Below.refl w.heap.size w).alloc (Nat.le_refl _) (Obj.cells #[.slice (some ⟨g1, 0, none⟩) n1 c1, .slice (some ⟨g2, 0, none⟩) n2 c2] 42)).alloc (by simp) (Obj.cells #[] 3))
    rw [hW0] at HB0 ⊢
    clear hW0
    have HN0 := Lib.hid (HN.out.moved HB0.out)
    refine (specNet_ HN0.out).mono ?_
    rintro e w1 ⟨rfl, hb1⟩
    rw [HB.out]
    have k0 := (hb1.cell (p := ⟨w.heap.size, 0, none⟩) hz0).trans hk0
    have k1 := (hb1.cell (p := ⟨w.heap.size, 1, none⟩) hz0).trans hk1
    have hbx : w.heap.size < w1.heap.size := Nat.lt_of_lt_of_le hz0 hb1.size
    have HN1 := Lib.hid (HN0.out.moved hb1)
    have hB1 := Lib.hid (HB0.out.trans (hb1.mono HB0.out.size))
    have HO1 := Lib.hid (ownB hown0 hb1)
    clear hk0 hk1 hz0 hb1 HN0 HB0 hown0
    go_wp2_with fail
    refine (CR.out _ hB1.out).mono ?_
    rintro e w2 ⟨rfl, hb2⟩
    have hO2 := ownB HO1.out hb2
    have hB2 := hB1.out.trans (hb2.mono hB1.out.size)
    clear hb2
    go_wp2
    go_ret2
    exact ⟨_, 0, _, rfl, Lib.hid rfl, own_base hO2 (by omega), hB2⟩
  case true =>
  rw [hris] at CR
  obtain ⟨e1, e2⟩ := bt_yes (ss := ss) (fs := fs) (zs := zs) ⟨hp, hris⟩
  rw [e1, e2]
  have HL2 := Lib.hid hl2
  have CH := Lib.hid (fun (x : Int) (W : World) (hb : Below w.heap.size w W) => has_ A n c zs x W HLN.out (HR.out.moved hb) (by omega))
  obtain ⟨i0, hi, hz0_, hz1_, hz2_⟩ := info_parts Try.inf_int
  have HI := Lib.hid hi; have HZ0 := Lib.hid hz0_; have HZ1 := Lib.hid hz1_; have HZ2 := Lib.hid hz2_
  clear e1 e2 hp hl1 hl2 hris hi hz0_ hz1_ hz2_
  go_enter Try.func38, Try.ntmps38
  go_wp2_with fail
  obtain ⟨W0, hW0⟩ : ∃ W0, ((w.alloc (Obj.cells #[.slice (some ⟨g1, 0, none⟩) n1 c1, .slice (some ⟨g2, 0, none⟩) n2 c2] 42)).alloc (Obj.cells #[] 3)) = W0 := ⟨_, rfl⟩
  have hk0 : W0.cell? ⟨w.heap.size, 0, none⟩ = some (.slice (some ⟨g1, 0, none⟩) n1 c1) := by rw [← hW0]; simp [go_sem]
  have hk1 : W0.cell? ⟨w.heap.size, 1, none⟩ = some (.slice (some ⟨g2, 0, none⟩) n2 c2) := by rw [← hW0]; simp [go_sem]
  have hz0 : w.heap.size < W0.heap.size := by rw [← hW0]; simp; try omega
  have hown0 : W0.ownsRow (w.heap.size + 1) 3 1 (.slice (some ⟨w.heap.size + 1, 0, none⟩) 0 0) 0 [] := by
    rw [← hW0]
    have := World.ownsRow_lit (base := w.heap.size + 1) (e := 3) (size := 1) (w.alloc (Obj.cells #[.slice (some ⟨g1, 0, none⟩) n1 c1, .slice (some ⟨g2, 0, none⟩) n2 c2] 42)) #[] 0 (by simp) (by unfold maxLen; omega) rfl
    simpa using this
  have HB0 := Lib.hid (((Below.refl w.heap.size w).alloc (Nat.le_refl _) (Obj.cells #[.slice (some ⟨g1, 0, none⟩) n1 c1, .slice (some ⟨g2, 0, none⟩) n2 c2] 42)).alloc (by simp) (Obj.cells #[] 3))
  rw [hW0] at HB0 ⊢
  clear hW0
  have HN0 := Lib.hid (HN.out.moved HB0.out)
  refine (specNet_ HN0.out).mono ?_
  rintro e w1 ⟨rfl, hb1⟩
  rw [HB.out]
  have k0 := (hb1.cell (p := ⟨w.heap.size, 0, none⟩) hz0).trans hk0
  have k1 := (hb1.cell (p := ⟨w.heap.size, 1, none⟩) hz0).trans hk1
  have hbx : w.heap.size < w1.heap.size := Nat.lt_of_lt_of_le hz0 hb1.size
  have HN1 := Lib.hid (HN0.out.moved hb1)
  have hB1 := Lib.hid (HB0.out.trans (hb1.mono HB0.out.size))
  have HO1 := Lib.hid (ownB hown0 hb1)
  clear hk0 hk1 hz0 hb1 HN0 HB0 hown0
  go_wp2_with fail
  refine (CR.out _ hB1.out).mono ?_
  rintro e w2 ⟨rfl, hb2⟩
  have HO2 := Lib.hid (ownB HO1.out hb2)
  have HB2 := Lib.hid (hB1.out.trans (hb2.mono hB1.out.size))
  have k0' := (hb2.cell (p := ⟨w.heap.size, 0, none⟩) hbx).trans k0
  have k1' := (hb2.cell (p := ⟨w.heap.size, 1, none⟩) hbx).trans k1
  have hbx2 : w.heap.size < w2.heap.size := Nat.lt_of_lt_of_le hbx hb2.size
  have HK0 := Lib.hid k0'; have HK1 := Lib.hid k1'
  clear k0 k1 hb2 HN1 hB1 HO1 hbx
  go_wp2
  clear k0' k1'
  go_loopw [6, 7] (fun v i wr => ∃ (k : Nat) (A : Option Addr) (N c : Nat), k ≤ n2 ∧ i = .int .i64 k ∧ v = .slice A N c ∧ Hid (N = (btK fs zs k).length) ∧ Hid (wr.ownsRow (w.heap.size + 1) 3 1 (.slice A N c) N ((btK fs zs k).map (Value.int .i64))) ∧ Below (w.heap.size + 1) w2 wr) (fun _ i _ => n2 - (intOf i).toNat)
  case atStart => exact ⟨0, _, 0, _, Nat.zero_le _, rfl, rfl, Lib.hid rfl, HO2, Below.refl _ _⟩
  case round =>
    obtain ⟨k, A', N, c', hk, rfl, rfl, HNN, HOW, hb⟩ := hrel
    have hc0 := (hb.cell (p := ⟨w.heap.size, 0, none⟩) (Nat.lt_succ_self _)).trans HK0.out
    have hc1 := (hb.cell (p := ⟨w.heap.size, 1, none⟩) (Nat.lt_succ_self _)).trans HK1.out
    have hN : N ≤ 14 := by have := HNN.out; have := btK_len fs zs k; omega
    by_cases hlt : k < n2
    · have hks : k < fs.length := by have := HL2.out; omega
      obtain ⟨⟨a, b, p, d⟩, hq⟩ : ∃ q, fs[k]'hks = q := ⟨_, rfl⟩
      have hstep := btK_step fs zs k _ hks hq
      have HBW := Lib.hid (HB2.out.trans (hb.mono (Nat.le_succ _)))
      have hrr := (HN.out.rd2.over HBW.out).q4c hks
      rw [Nat.zero_add, hq] at hrr
      obtain ⟨hg, f0, f1, f2, f3⟩ := hrr
      simp only at f0 f1 f2 f3
      unfold acr at hstep
      simp only at hstep
      have CA := Lib.hid (fun (W : World) hW => (CH.out a W hW).mono (fun e w' (h : e = _ ∧ W = w') => (⟨h.1, h.2.symm⟩ : e = _ ∧ w' = W)))
      have CB := Lib.hid (fun (W : World) hW => (CH.out b W hW).mono (fun e w' (h : e = _ ∧ W = w') => (⟨h.1, h.2.symm⟩ : e = _ ∧ w' = W)))
      obtain ⟨u, hu⟩ : ∃ u, decide (a ∈ zs) = u := ⟨_, rfl⟩
      obtain ⟨v, hv⟩ : ∃ v, decide (b ∈ zs) = v := ⟨_, rfl⟩
      rw [hu] at CA hstep
      rw [hv] at CB hstep
      have hsz0 := hb.size
      have hBs : w.heap.size + 1 ≤ wr.heap.size := by omega
      clear hq hu hv f2 f3
      cases huv : (u != v)
      case true =>
        rw [huv, if_pos rfl] at hstep
        have HST := Lib.hid hstep
        have e : v = !u := by cases u <;> cases v <;> first | rfl | cases huv
        subst e
        clear hstep huv
        cases u
        all_goals
          go_wp2_with fail
          go_quiet ((go_at_call 76; (first | with_reducible exact Calls.quiet_of_same (CA.out _ (drewN_below_ HBW.out _)) | with_reducible exact Calls.quiet_of_same (CB.out _ (drewN_below_ HBW.out _)))))
          go_wp2_with (at_builtin; refine wpList_append_own _ rfl _ _ 55 rfl (w.heap.size + 1) 3 i0 (.int .i64 0) 1 8 Try.underlying55 HI.out HZ0.out HZ1.out HZ2.out rfl (by decide) _ N _ rfl ((ownDr HOW.out _).alloc _) ⟨wr.heap.size, 0, none⟩ 1 1 [.int .i64 (k : Int)] rfl rfl (new_one1 _ _ _ _ (by simp)) (new_int _) (by unfold maxLen; omega) (by omega) (by simp; omega) ?_)
          intro v1 w3 hown1 hgrow1 _
          have hB3 : Below (w.heap.size + 1) w2 w3 := ((drewN_below_ hb _).alloc hBs _).grown hgrow1 (by simp; omega) (fun g hg => (HOW.out.lt g hg).1)
          obtain ⟨N1, hN1⟩ : ∃ N1, N + 1 = N1 := ⟨_, rfl⟩
          rw [hN1] at hown1
          obtain ⟨A1, c1', rfl⟩ := formOf hown1
          have hxs : (btK fs zs k).map (Value.int .i64) ++ [.int .i64 (k : Int)] = (btK fs zs (k + 1)).map (Value.int .i64) := by rw [HST.out, List.map_append]; rfl
          rw [hxs] at hown1
          have HOW1 := Lib.hid hown1
          have HN1' : Hid (N1 = (btK fs zs (k + 1)).length) := Lib.hid (by rw [HST.out, List.length_append, ← HNN.out, ← hN1]; rfl)
          clear hxs hown1 hN1 hgrow1
          go_wp2
          go_roundw
          case rel => exact ⟨k + 1, A1, N1, c1', by omega, by go_num, rfl, HN1', HOW1, hB3⟩
          case measure => simp [intOf]; omega
      case false =>
        rw [huv, if_neg Bool.false_ne_true, List.append_nil] at hstep
        have HN1' : Hid (N = (btK fs zs (k + 1)).length) := Lib.hid (by rw [hstep]; exact HNN.out)
        have HOW1 : Hid (wr.ownsRow (w.heap.size + 1) 3 1 (.slice A' N c') N ((btK fs zs (k + 1)).map (Value.int .i64))) := Lib.hid (by rw [hstep]; exact HOW.out)
        have e : v = u := by cases u <;> cases v <;> first | rfl | cases huv
        subst e
        clear hstep huv
        cases v
        all_goals
          go_wp2_with fail
          go_quiet ((go_at_call 76; (first | with_reducible exact Calls.quiet_of_same (CA.out _ (drewN_below_ HBW.out _)) | with_reducible exact Calls.quiet_of_same (CB.out _ (drewN_below_ HBW.out _)))))
          go_wp2
          go_roundw
          case rel => exact ⟨k + 1, A', N, c', by omega, by go_num, rfl, HN1', Lib.hid (ownDr HOW1.out _), drewN_below_ hb _⟩
          case measure => simp [intOf]; omega
    · have hkn : k = n2 := by omega
      have hkl : k = fs.length := by have := HL2.out; omega
      have HNF : Hid (N = (btK fs zs fs.length).length) := Lib.hid (by rw [← hkl]; exact HNN.out)
      have HOF : Hid (wr.ownsRow (w.heap.size + 1) 3 1 (.slice A' N c') N ((btK fs zs fs.length).map (Value.int .i64))) := Lib.hid (by rw [← hkl]; exact HOW.out)
      subst hkn
      clear hlt hkl
      go_wp2
      go_ret2
      exact ⟨A', N, c', rfl, HNF, own_base HOF.out (Nat.le_succ _), HB2.out.trans (hb.mono (Nat.le_succ _))⟩
end Go.Proofs.Ytlankoameeacpaa
