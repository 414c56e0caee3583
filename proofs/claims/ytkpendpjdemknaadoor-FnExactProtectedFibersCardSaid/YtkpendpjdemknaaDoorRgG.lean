/- Rings: the specification's list turned round, its order, the standard form and the nodes: contracts. No condition but those typed. -/
import Derived.Test.YtkpendpjdemknaaDoorRgS
import Derived.Test.YtkpendpjdemknaaDoorFail
namespace Go.Proofs.YtkpendpjdemknaaDoor
open Go.ChangeShapes Go.WideShapes Go.ChangeAt Go.RowKit

set_option maxRecDepth 100000 in
set_option maxHeartbeats 2000000 in
theorem l17Back_ {A : Option Addr} {n c : Nat} {fl : List Int} {w : World} (hn : fl.length = n) (hr : Rd w w.heap.size A (fl.map (Value.int .i64))) (hx : n ≤ 1048576) :
    Calls Tryd.prog 80 #[.slice A n c] w (IntsO fl.reverse w) := by
  obtain ⟨i0, hi, hz0_, hz1_, hz2_⟩ := info_parts Tryd.inf_int
  have HI := Lib.hid hi; have HZ0 := Lib.hid hz0_; have HZ1 := Lib.hid hz1_; have HZ2 := Lib.hid hz2_
  have HN := Lib.hid hn; have HR := Lib.hid hr
  clear hn hr hi hz0_ hz1_ hz2_
  have hn1 : IntKind.i64.wrap ((n : Int) - 1) = (n : Int) - 1 := IntWalk.i64_in _ (by omega)
  go_enter Tryd.func80, Tryd.ntmps80
  go_wp2_with fail
  obtain ⟨W0, hW0⟩ : ∃ W0, w.alloc (Obj.cells #[] 3) = W0 := ⟨_, rfl⟩
  have hb0 : Below w.heap.size w W0 := by rw [← hW0]; exact (Below.refl _ _).alloc (Nat.le_refl _) _
  have HO0 : Hid (W0.ownsRow w.heap.size 3 1 (.slice (some ⟨w.heap.size, 0, none⟩) 0 0) 0 []) := Lib.hid (by
    rw [← hW0]
    have h9 := World.ownsRow_lit (base := w.heap.size) (e := 3) (size := 1) w #[] 0 (Nat.le_refl _) (by unfold maxLen; omega) rfl
    simpa using h9)
  have HB0 := Lib.hid hb0
  rw [hW0]
  clear hW0 hb0
  go_wp2
  clear hn1
  go_loopw [3, 4] (fun v i wr => ∃ (k : Nat) (B : Option Addr) (N cc : Nat), k ≤ n ∧ i = .int .i64 ((n : Int) - 1 - k) ∧ v = .slice B N cc ∧ Hid (N = k) ∧ Hid (wr.ownsRow w.heap.size 3 1 (.slice B N cc) N ((fl.reverse.take k).map (Value.int .i64))) ∧ Below w.heap.size w wr) (fun _ i _ => ((intOf i) + 1).toNat)
  case atStart => exact ⟨0, _, 0, 0, Nat.zero_le _, by go_num, rfl, Lib.hid rfl, Lib.hid (by simpa using HO0.out), HB0.out⟩
  case round =>
    obtain ⟨k, B, N, cc, hk, rfl, rfl, HNK, HQL, hb⟩ := hrel
    by_cases hlt : k < n
    case neg =>
      have hkn : k = n := by omega
      have HF : Hid (wr.ownsRow w.heap.size 3 1 (.slice B N cc) N (fl.reverse.map (Value.int .i64))) := Lib.hid (by
        have h1 := HQL.out
        rwa [List.take_of_length_le (by rw [List.length_reverse]; have := HN.out; omega)] at h1)
      have HNL : Hid (N = fl.reverse.length) := Lib.hid (by rw [List.length_reverse, HN.out, HNK.out, hkn])
      have hiv : (n : Int) - 1 - (k : Int) = -1 := by omega
      rw [hiv]
      clear hiv hkn hlt hk
      go_wp2
      go_ret
      exact ⟨B, N, cc, rfl, HNL, HF.out, hb⟩
    case pos =>
      obtain ⟨m, hm⟩ : ∃ m, n = k + 1 + m := ⟨n - k - 1, by omega⟩
      have him : (n : Int) - 1 - k = (m : Int) := by omega
      have hmn : m < n := by omega
      have hms : m < fl.length := by have := HN.out; omega
      obtain ⟨ad, rfl, hadl, hcell⟩ := (HR.out.moved hb).got (k := m) (by simpa using hms)
      simp only [List.getElem_map] at hcell
      obtain ⟨x, hx'⟩ : ∃ x, fl[m]'hms = x := ⟨_, rfl⟩
      rw [hx'] at hcell
      have HTK : Hid (fl.reverse.take (k + 1) = fl.reverse.take k ++ [x]) := Lib.hid (by
        have hkr : k < fl.reverse.length := by rw [List.length_reverse]; have := HN.out; omega
        rw [List.take_succ_eq_append_getElem hkr, List.getElem_reverse]
        congr 2
        rw [← hx']
        congr 1
        have := HN.out; omega)
      rw [him]
      have HM : Hid (n = k + 1 + m) := Lib.hid hm
      have hmi : (m : Int) < n := by omega
      have hnn : ¬ (m : Int) < 0 := by omega
      have hm0 : (0 : Int) ≤ (m : Int) := by omega
      clear hm hx' him hlt
      have hN : N ≤ 1048576 := by have := HNK.out; omega
      have HBR := Lib.hid hb
      have hown := HQL.out
      have hsz : w.heap.size ≤ wr.heap.size := hb.size
      clear hb
      go_wp2_with (at_builtin; refine wpList_append_own _ rfl _ _ 26 rfl w.heap.size 3 i0 (.int .i64 0) 1 8 Tryd.underlying26 HI.out HZ0.out HZ1.out HZ2.out rfl (by decide) _ N _ rfl (hown.alloc _) ⟨wr.heap.size, 0, none⟩ 1 1 [.int .i64 x] rfl rfl (new_one _ _ _) (new_int _) (by unfold maxLen; omega) (by omega) (by simp; omega) ?_)
      intro v1 w3 hown1 hgrow1 _
      have hB3 : Below w.heap.size w w3 := (HBR.out.alloc hsz _).grown hgrow1 (by simp; omega) (fun g hg => (hown.lt g hg).1)
      obtain ⟨N1, hN1⟩ : ∃ N1, N + 1 = N1 := ⟨_, rfl⟩
      rw [hN1] at hown1
      obtain ⟨A1, cc1, rfl⟩ := formOf hown1
      have HOW1 : Hid (w3.ownsRow w.heap.size 3 1 (.slice A1 N1 cc1) N1 ((fl.reverse.take (k + 1)).map (Value.int .i64))) := Lib.hid (by rw [HTK.out]; simpa using hown1)
      have HNK1 : Hid (N1 = k + 1) := Lib.hid (by rw [← hN1, HNK.out])
      have HB3 := Lib.hid hB3
      clear hown1 hgrow1 hown hB3 hN1 hmi hnn hm0 hcell
      go_wp2
      go_roundw
      case rel => exact ⟨k + 1, A1, N1, cc1, by have := HM.out; omega, by have := HM.out; go_num, rfl, HNK1, HOW1, HB3.out⟩
      case measure => first | (simp [intOf]; done) | (simp [intOf]; omega)
set_option maxRecDepth 100000 in
set_option maxHeartbeats 2000000 in
theorem l17Less_ {A A' : Option Addr} {n c c' : Nat} {x y : Int} {xs ys : List Int} {w : World} (hn : (x :: xs).length = n) (hm : (y :: ys).length = n) (hr : Rd w w.heap.size A ((x :: xs).map (Value.int .i64))) (hr' : Rd w w.heap.size A' ((y :: ys).map (Value.int .i64))) (hx : n ≤ 1048576) (hne : x ≠ y) :
    Calls Tryd.prog 79 #[.slice A n c, .slice A' n c'] w (RetP (.bool (decide (x < y))) w) := by
  obtain ⟨ad, rfl, had, h0⟩ := ints_at hr (k := 0) (by simp)
  obtain ⟨ad', rfl, had', h0'⟩ := ints_at hr' (k := 0) (by simp)
  simp only [List.getElem_cons_zero] at h0 h0'
  have hnp : 0 < n := by rw [← hn]; simp
  have hnI : (0 : Int) < (n : Int) := by omega
  have hne1 : (x != y) = true := bne_iff_ne.2 hne
  have hne2 : (x == y) = false := beq_eq_false_iff_ne.2 hne
  have hne3 : decide (x = y) = false := decide_eq_false hne
  have ea : ∀ a : Addr, a.add 0 = a := fun a => by cases a; rfl
  rw [ea] at h0 h0'
  obtain ⟨r, hr⟩ : ∃ r, decide (x < y) = r := ⟨_, rfl⟩
  have HRR := Lib.hid hr
  have H0 : Hid (∀ t, (w.drewN t).cell? ad = some (.int .i64 x)) := Lib.hid fun t => h0
  have H0' : Hid (∀ t, (w.drewN t).cell? ad' = some (.int .i64 y)) := Lib.hid fun t => h0'
  rw [hr]
  clear hn hm hr hr'
  go_enter Tryd.func79, Tryd.ntmps79
  go_wp2
  go_loopw [5] (fun i wr => i = .int .i64 0 ∧ w = wr) (fun _ _ => 0)
  case atStart => exact ⟨rfl, rfl⟩
  case round =>
    obtain ⟨rfl, rfl⟩ := hrel
    go_wp2
    go_quiet (fail)
    obtain ⟨W1, hW1⟩ : ∃ W1, w.drewN nq = W1 := ⟨_, rfl⟩
    have hb1 : Below w.heap.size w W1 := by rw [← hW1]; exact drewN_below_ (Below.refl _ _) _
    have q0 := (hb1.cell (p := ad) had).trans h0
    have q1 := (hb1.cell (p := ad') had').trans h0'
    have HB1 := Lib.hid hb1
    rw [hW1]
    clear hW1 hb1 h0 h0'
    go_wp2_with fail
    go_quiet (fail)
    obtain ⟨W2, hW2⟩ : ∃ W2, W1.drewN nq = W2 := ⟨_, rfl⟩
    have HB2 : Hid (Below w.heap.size w W2) := Lib.hid (by rw [← hW2]; exact drewN_below_ HB1.out _)
    rw [hW2]
    clear hW2
    go_wp2
    go_ret
    exact ⟨retb HRR.out, HB2.out⟩
def allB (k : Int) (l : List Int) : Bool := l.all fun x => decide (k ≤ x)
theorem allB_snoc (k : Int) (l : List Int) (v : Int) : allB k (l ++ [v]) = (allB k l && decide (k ≤ v)) := by unfold allB; rw [List.all_append]; simp
theorem allB_iff (k : Int) (l : List Int) : allB k l.reverse = true ↔ ∀ x ∈ l, k ≤ x := by unfold allB; simp
theorem rgI_n {fs : List Q4} {fl : List Int} : (rgI fs fl).isSome = true → rgI fs fl ≠ none := fun h e => by rw [e] at h; cases h
set_option maxRecDepth 100000 in
set_option maxHeartbeats 8000000 in
theorem l17Good_ {g1 g2 n1 n2 c1 c2 : Nat} {ss : List ByteArray} {fs : List Q4} {w : World} (h : NetAt g1 g2 n1 n2 c1 c2 ss fs w) (hv : netP ss fs)
    {A : Option Addr} {n c : Nat} {fl : List Int} (hn : fl.length = n) (hr : Rd w w.heap.size A (fl.map (Value.int .i64))) (hx : n ≤ 1048576) (hcp : n ≤ c) :
    Calls Tryd.prog 53 #[.agg #[.slice (some ⟨g1, 0, none⟩) n1 c1, .slice (some ⟨g2, 0, none⟩) n2 c2], .slice A n c] w (RetP (.bool (rgI fs fl).isSome) w) := by
  obtain ⟨rb, hrb⟩ : ∃ b, (rgI fs fl).isSome = b := ⟨_, rfl⟩
  have HRB := Lib.hid hrb
  rw [hrb]
  clear hrb
  have HV := Lib.hid hv; have HN := Lib.hid hn; have HNT := Lib.hid h; have HR := Lib.hid hr
  have HL1 := Lib.hid h.ln1
  have hs1 := h.sm1
  clear h hv hn hr
  go_enter Tryd.func53, Tryd.ntmps53
  go_wp2_with fail
  obtain ⟨W0, hW0⟩ : ∃ W0, w.alloc (Obj.cells #[.slice (some ⟨g1, 0, none⟩) n1 c1, .slice (some ⟨g2, 0, none⟩) n2 c2] 32) = W0 := ⟨_, rfl⟩
  have hb0 : Below w.heap.size w W0 := by rw [← hW0]; exact (Below.refl _ _).alloc (Nat.le_refl _) _
  have k0 : W0.cell? ⟨w.heap.size, 0, none⟩ = some (.slice (some ⟨g1, 0, none⟩) n1 c1) := by rw [← hW0]; simp [go_sem]
  have k1 : W0.cell? ⟨w.heap.size, 1, none⟩ = some (.slice (some ⟨g2, 0, none⟩) n2 c2) := by rw [← hW0]; simp [go_sem]
  have hz0 : w.heap.size < W0.heap.size := by rw [← hW0]; simp
  have HB0 := Lib.hid hb0
  have HK : Hid (∀ u, Below W0.heap.size W0 u → u.cell? ⟨w.heap.size, 0, none⟩ = some (.slice (some ⟨g1, 0, none⟩) n1 c1) ∧ u.cell? ⟨w.heap.size, 1, none⟩ = some (.slice (some ⟨g2, 0, none⟩) n2 c2) ∧ w.heap.size < u.heap.size) := Lib.hid fun u hu => ⟨(hu.cell (p := ⟨w.heap.size, 0, none⟩) hz0).trans k0, (hu.cell (p := ⟨w.heap.size, 1, none⟩) hz0).trans k1, Nat.lt_of_lt_of_le hz0 hu.size⟩
  rw [hW0]
  clear hW0 hb0 k0 k1 hz0
  go_wp2
  go_loopw [5] (fun i wr => ∃ k : Nat, k ≤ n1 ∧ i = .int .i64 (k : Int) ∧ Hid (∀ j : Int, 0 ≤ j → j < k → ∀ us, ¬ okR fs fl j us) ∧ Below W0.heap.size W0 wr) (fun i _ => n1 - (intOf i).toNat)
  case atStart => exact ⟨0, Nat.zero_le _, rfl, Lib.hid (fun j h1 h2 => absurd h2 (by omega)), Below.refl _ _⟩
  case round =>
    obtain ⟨k, hk, rfl, HNO, hb⟩ := hrel
    obtain ⟨q0, q1, q2⟩ := HK.out wr hb
    have HBW := Lib.hid (HB0.out.trans (hb.mono HB0.out.size))
    have HBR := Lib.hid hb
    clear hb
    by_cases hlt : k < n1
    case neg =>
      have HE : Hid (false = rb) := Lib.hid (by
        rw [← HRB.out, rg_never HV.out (fun j h1 h2 => HNO.out j h1 (by have := HL1.out; omega))]; rfl)
      have hlI : ¬ ((k : Int) < (n1 : Int)) := by omega
      go_wp2
      go_ret
      exact ⟨retb HE.out, HBW.out⟩
    case pos =>
    have hkI : (k : Int) < (n1 : Int) := by omega
    have CW := Lib.hid (l17Walk_ (HNT.out.moved HBW.out) HV.out HN.out (HR.out.moved HBW.out) hx hcp (k : Int))
    clear hlt
    go_wp2_with fail
    refine CW.out.mono ?_
    rintro e w1 ⟨B, N, cc, b, es, rfl, HNE, HOE, HOK, hb1⟩
    have HB1 := Lib.hid (HBR.out.trans (hb1.mono HBR.out.size))
    have HB1W := Lib.hid (HBW.out.trans (hb1.mono HBW.out.size))
    have hNs : N ≤ 1048576 := by have := HNE.out.2; have := HN.out; omega
    clear hb1 q0 q1 q2
    cases b
    case false =>
      have HNO1 : Hid (∀ j : Int, 0 ≤ j → j < ((k + 1 : Nat) : Int) → ∀ us, ¬ okR fs fl j us) := Lib.hid (fun j h1 h2 us => by
        by_cases hj : j < k
        · exact HNO.out j h1 hj us
        · obtain rfl : j = (k : Int) := by omega
          rcases HOK.out with ⟨h, _⟩ | ⟨_, h⟩
          · cases h
          · exact h us)
      go_wp2
      go_roundw
      case rel => exact ⟨k + 1, by omega, by go_num, HNO1, HB1.out⟩
      case measure => simp [intOf]; omega
    case true =>
    have HOKY : Hid (okR fs fl (k : Int) es) := Lib.hid (by
      rcases HOK.out with ⟨_, h⟩ | ⟨h, _⟩
      · exact h
      · cases h)
    have HFI := Lib.hid (rg_first HV.out HOKY.out HNO.out)
    go_wp2
    go_loopw [8, 9] (fun v i wr2 => ∃ (j : Nat) (b : Bool), j ≤ N ∧ i = .int .i64 (j : Int) ∧ v = .bool b ∧ Hid (b = allB (k : Int) (es.reverse.take j)) ∧ w1 = wr2) (fun _ i _ => N - (intOf i).toNat)
    case atStart => exact ⟨0, true, Nat.zero_le _, rfl, rfl, Lib.hid rfl, rfl⟩
    case round =>
      obtain ⟨j, b, hj, rfl, rfl, HBE, rfl⟩ := hrel
      by_cases hjl : j < N
      case pos =>
        have hje : j < es.reverse.length := by rw [List.length_reverse]; have := HNE.out.1; omega
        obtain ⟨gB, rfl⟩ := own_some HOE.out (by omega)
        have hc9 := HOE.out.cellAt j (by omega)
        rw [List.getElem?_map, List.getElem?_eq_getElem hje] at hc9
        simp only [Option.map_some] at hc9
        obtain ⟨v, hv⟩ : ∃ v, es.reverse[j]'hje = v := ⟨_, rfl⟩
        rw [hv] at hc9
        have HTK : Hid (es.reverse.take (j + 1) = es.reverse.take j ++ [v]) := Lib.hid (by rw [List.take_succ_eq_append_getElem hje, hv])
        have hjI : (j : Int) < (N : Int) := by omega
        clear hv
        cases b
        case false =>
          have HB2 : Hid (false = allB (k : Int) (es.reverse.take (j + 1))) := Lib.hid (by rw [HTK.out, allB_snoc, ← HBE.out]; rfl)
          clear hjl
          go_wp2
          go_roundw
          case rel => exact ⟨j + 1, false, by omega, by go_num, rfl, HB2, trivial⟩
          case measure => simp [intOf]; omega
        case true =>
          have HB2 : Hid (decide ((k : Int) ≤ v) = allB (k : Int) (es.reverse.take (j + 1))) := Lib.hid (by rw [HTK.out, allB_snoc, ← HBE.out]; rfl)
          clear hjl
          go_wp2
          go_roundw
          case rel => exact ⟨j + 1, _, by omega, by go_num, rfl, HB2, trivial⟩
          case measure => simp [intOf]; omega
      case neg =>
        obtain rfl : j = N := by omega
        have HBE2 : Hid (b = true ↔ ∀ x ∈ es, (k : Int) ≤ x) := Lib.hid (by
          have := HBE.out
          rw [List.take_of_length_le (by rw [List.length_reverse]; have := HNE.out.1; omega)] at this
          rw [this]; exact allB_iff _ _)
        clear hjl
        cases b
        case false =>
          have HE : Hid (false = rb) := Lib.hid (by
            obtain ⟨f0, mid, last, _, _, _, h4⟩ := HFI.out
            rw [← HRB.out, h4 (fun h => by have := HBE2.out.2 h.1; cases this)]; rfl)
          go_wp2
          go_ret
          exact ⟨retb HE.out, HB1W.out⟩
        case true =>
        obtain ⟨f0, mid, last, hfl, hne, h3, h4⟩ := HFI.out
        have HE : Hid ((!decide (last < f0)) = rb) := Lib.hid (by
          rw [← HRB.out]
          by_cases hl : last < f0
          · rw [h4 (fun h => by have := h.2; omega), decide_eq_true hl]; rfl
          · rw [h3 ⟨HBE2.out.1 rfl, by omega⟩, decide_eq_false hl]; rfl)
        have hrv : fl.reverse = last :: (mid.reverse ++ [f0]) := by rw [hfl]; simp
        have HFL := Lib.hid hfl; have HRV := Lib.hid hrv
        have CB := Lib.hid (l17Back_ (c := c) HN.out (HR.out.moved HB1W.out) hx)
        have HNE2 : Hid (last ≠ f0) := Lib.hid (fun e => hne e.symm)
        clear hfl hrv h3 h4 hne
        go_wp2_with fail
        refine CB.out.mono ?_
        rintro e w2 ⟨B2, N2, cc2, rfl, HN2, ho2, hb2⟩
        obtain rfl : N2 = n := by rw [HN2.out, List.length_reverse, HN.out]
        have HB2W := Lib.hid (HB1W.out.trans (hb2.mono HB1W.out.size))
        have CL := Lib.hid (l17Less_ (x := last) (y := f0) (xs := mid.reverse ++ [f0]) (ys := mid ++ [last]) (c := cc2) (c' := c) (w := w2) (n := N2) (by rw [← HRV.out]; exact HN2.out.symm) (by have := HN.out; rw [HFL.out] at this; exact this) (by rw [← HRV.out]; exact Rd.ofOwn ho2) (by have := HR.out.moved HB2W.out; rw [HFL.out] at this; exact this) hx HNE2.out)
        clear ho2 hb2
        obtain ⟨lb, hlb⟩ : ∃ b, decide (last < f0) = b := ⟨_, rfl⟩
        rw [hlb] at CL HE
        clear hlb
        go_wp2_with fail
        refine CL.out.mono ?_
        rintro e w3 ⟨rfl, hb3⟩
        have HB3W := Lib.hid (HB2W.out.trans (hb3.mono HB2W.out.size))
        clear hb3
        go_wp2
        go_ret
        exact ⟨retb HE.out, HB3W.out⟩
end Go.Proofs.YtkpendpjdemknaaDoor
