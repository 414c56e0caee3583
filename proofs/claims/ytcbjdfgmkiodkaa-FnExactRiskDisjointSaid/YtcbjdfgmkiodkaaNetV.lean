/- Contract: spec.l2Good answers the plain word. No condition but those typed. -/
import Derived.Test.YtcbjdfgmkiodkaaFibV
import Derived.Test.YtcbjdfgmkiodkaaNetS
import Derived.Test.YtcbjdfgmkiodkaaRegion
namespace Go.Proofs.Ytcbjdfgmkiodkaa
open Go.ChangeShapes Go.WideShapes Go.ChangeAt Go.RowKit

theorem Rd.ofHeap {w W : World} {B : Nat} {A : Option Addr} {xs : List Value} (h : Rd w B A xs) (hh : W.heap = w.heap) : Rd W B A xs := by
  intro k u hu
  obtain ⟨ad, e, hl, hc⟩ := h k u hu
  exact ⟨ad, e, hl, by rw [← hc]; unfold World.cell?; rw [hh]⟩
theorem nameAt.mk {ss : List ByteArray} {k : Nat} {s : ByteArray} (hks : k < ss.length) (hs : ss[k] = s) (h1 : nameP s) (h2 : findV ss s = k) : nameAt ss k := by
  intro h
  refine ⟨by rw [hs]; exact h1, fun j hj he => ?_⟩
  rw [hs] at he
  by_cases hex : ∃ i, i < ss.length ∧ i < k ∧ ∃ h : i < ss.length, ss[i].toList = s.toList
  · unfold findV at h2
    cases hf : ss.findIdx? (fun x => x.toList == s.toList) with
    | none => rw [hf] at h2; simp at h2
    | some i =>
      rw [hf] at h2
      have hi : i = k := by have h3 : (i : Int) = k := h2; omega
      subst hi
      obtain ⟨_, _, hno⟩ := List.findIdx?_eq_some_iff_getElem.1 hf
      have := hno j hj
      simp [he] at this
  · exact hex ⟨j, by omega, hj, by omega, he⟩
theorem nameAt.find {ss : List ByteArray} {k : Nat} {s : ByteArray} (hks : k < ss.length) (hs : ss[k] = s) (h : nameAt ss k) : nameP s ∧ findV ss s = k := by
  have := h hks
  refine ⟨by rw [← hs]; exact this.1, findV_at ss s k hks (fun j hj hjk => ?_) (by rw [hs])⟩
  rw [← hs]; exact this.2 j hjk

set_option maxRecDepth 100000 in
set_option maxHeartbeats 4000000 in
theorem specNet (g1 g2 n1 n2 c1 c2 : Nat) (ss : List ByteArray) (fs : List Q4) (w : World) (hn1 : ss.length = n1) (hs1 : n1 ≤ 1048576) (hr1 : Rd w w.heap.size (some ⟨g1, 0, none⟩) (ss.map Value.string)) (hws : ∀ s ∈ ss, s.size ≤ maxLen)
    (hn2 : fs.length = n2) (hs2 : n2 ≤ 1048576) (hr2 : Rd w w.heap.size (some ⟨g2, 0, none⟩) (fs.flatMap Q4.cells)) :
    Calls Try.prog 116 #[.agg #[.slice (some ⟨g1, 0, none⟩) n1 c1, .slice (some ⟨g2, 0, none⟩) n2 c2]] w (BoolP (pb (netP ss fs)) w) := by
  have HN1 := Lib.hid hn1; have HN2 := Lib.hid hn2; have HWS := Lib.hid hws; clear hn1 hn2 hws
  have HB0 := Lib.hid ((Below.refl w.heap.size w).alloc (Nat.le_refl _) (Obj.cells #[.slice (some ⟨g1, 0, none⟩) n1 c1, .slice (some ⟨g2, 0, none⟩) n2 c2] 32))
  by_cases hl : 2 ≤ n1 ∧ n1 ≤ 8
  case neg =>
    have HF : Hid (pb (netP ss fs) = false) := Lib.hid (pb_false fun h => hl (by have := h.1; have := HN1.out; omega))
    have q : (n1 : Int) < 2 ∨ 8 < (n1 : Int) := by omega
    have HC := Lib.hid (fun W => in_no (n1 : Int) 2 8 W q)
    clear hl q
    go_enter Try.func116, Try.ntmps116
    go_wp2_with (refine (HC.out _).mono ?_; rintro e w' ⟨rfl, rfl⟩)
    go_ret
    exact boolP HF.out.symm HB0.out
  case pos =>
  obtain ⟨hl1, hl2⟩ := hl
  have HC := Lib.hid (fun W => in_yes (n1 : Int) 2 8 W (by omega) (by omega))
  by_cases h14 : n2 ≤ 14
  case neg =>
    have HF : Hid (pb (netP ss fs) = false) := Lib.hid (pb_false fun h => h14 (by have := h.2.1; have := HN2.out; omega))
    have q : 14 < (n2 : Int) := by omega
    clear h14
    go_enter Try.func116, Try.ntmps116
    go_wp2_with (refine (HC.out _).mono ?_; rintro e w' ⟨rfl, rfl⟩)
    go_ret
    exact boolP HF.out.symm HB0.out
  case pos =>
  have q14 : (n2 : Int) ≤ 14 := by omega
  go_enter Try.func116, Try.ntmps116
  go_wp2_with (refine (HC.out _).mono ?_; rintro e w' ⟨rfl, rfl⟩)
  obtain ⟨W0, hW0⟩ : ∃ W0, (w.alloc (Obj.cells #[.slice (some ⟨g1, 0, none⟩) n1 c1, .slice (some ⟨g2, 0, none⟩) n2 c2] 32)) = W0 := ⟨_, rfl⟩
  have hk0 : W0.cell? ⟨w.heap.size, 0, none⟩ = some (.slice (some ⟨g1, 0, none⟩) n1 c1) := by rw [← hW0]; simp [go_sem]
  have hk1 : W0.cell? ⟨w.heap.size, 1, none⟩ = some (.slice (some ⟨g2, 0, none⟩) n2 c2) := by rw [← hW0]; simp [go_sem]
  have hz0 : w.heap.size < W0.heap.size := by rw [← hW0]; simp
  rw [hW0] at HB0 ⊢
  clear hW0
  have HR1 := Lib.hid (hr1.moved HB0.out); have HR2 := Lib.hid (hr2.moved HB0.out)
  have HK0 := Lib.hid hk0; have HK1 := Lib.hid hk1
  clear hr1 hr2 hk0 hk1 HC
  go_loopw [3] (fun i wr => ∃ k : Nat, k ≤ n1 ∧ i = .int .i64 k ∧ (∀ j, j < k → nameAt ss j) ∧ Below W0.heap.size W0 wr) (fun i _ => n1 - (intOf i).toNat)
  case atStart => exact ⟨0, Nat.zero_le _, rfl, fun j h => absurd h (by omega), Below.refl _ _⟩
  case round =>
    obtain ⟨k, hk, rfl, hall, hb⟩ := hrel
    have HA := Lib.hid hall; clear hall
    have hc0 := HK0.out; have hc1 := HK1.out
    rw [← hb.cell (p := ⟨w.heap.size, 0, none⟩) hz0] at hc0
    rw [← hb.cell (p := ⟨w.heap.size, 1, none⟩) hz0] at hc1
    by_cases hlt : k < n1
    · have hks : k < ss.length := by have := HN1.out; omega
      obtain ⟨ad, e, _, hcell⟩ := (HR1.out.over hb).got (k := k) (by simpa using hks)
      injection e with e; subst e
      have ea : (⟨g1, 0, none⟩ : Addr).add k = ⟨g1, k, none⟩ := by unfold Addr.add; by_cases h : k = 0 <;> simp [h]
      rw [ea, strGet ss k hks] at hcell
      clear ea
      obtain ⟨s, hs⟩ : ∃ s, ss[k]'hks = s := ⟨_, rfl⟩
      have hsm : s.size ≤ maxLen := by rw [← hs]; exact HWS.out _ (List.getElem_mem hks)
      rw [hs] at hcell
      have HRW := Lib.hid ((HR1.out.over hb).wider hb.size)
      by_cases hnm : nameP s
      · have CN : Hid (∀ W, Calls Try.prog 207 #[.string s] W fun e w' => e = .returned (.bool true) ∧ w' = W) := Lib.hid fun W =>
          (specName s W hsm).mono fun e w' ⟨h1, h2⟩ => ⟨by rw [h1, pb_true hnm], h2.symm⟩
        have CF : Hid (∀ W, W.heap = wr.heap → Calls Try.prog 208 #[.slice (some ⟨g1, 0, none⟩) n1 c1, .string s] W fun e w' => e = .returned (.int .i64 (findV ss s)) ∧ w' = W) := Lib.hid fun W hW =>
          (find_any (some ⟨g1, 0, none⟩) n1 c1 ss s W HN1.out hs1 (by rw [hW]; exact HRW.out.ofHeap hW)).mono fun e w' ⟨h1, h2⟩ => ⟨h1, h2.symm⟩
        by_cases hfd : findV ss s = k
        · have HS : Hid (∀ j, j < k + 1 → nameAt ss j) := Lib.hid (by
            intro j hj
            by_cases hjk : j < k
            · exact HA.out j hjk
            · obtain rfl : j = k := by omega
              exact nameAt.mk hks hs hnm hfd)
          rw [hfd] at CF
          clear hfd hs hnm hsm
          go_wp2
          go_quiet ((first | (go_at_call 207; exact Calls.quiet_of_same (CN.out _)) | (go_at_call 208; exact Calls.quiet_of_same (CF.out _ rfl))))
          go_wp2
          go_roundw
          case rel => exact ⟨k + 1, by omega, by go_num, HS.out, drewN_below hb _⟩
          case measure => simp [intOf]; omega
        · have HF : Hid (pb (netP ss fs) = false) := Lib.hid (pb_false fun h => hfd (nameAt.find hks hs (h.2.2.1 k hks)).2)
          obtain ⟨z, hz⟩ : ∃ z, findV ss s = z := ⟨_, rfl⟩
          rw [hz] at CF hfd
          have q1 : (z == (k : Int)) = false := by simpa using hfd
          have q2 : (z != (k : Int)) = true := by simpa using hfd
          clear hfd hs hnm hsm hz
          go_wp2
          go_quiet ((first | (go_at_call 207; exact Calls.quiet_of_same (CN.out _)) | (go_at_call 208; exact Calls.quiet_of_same (CF.out _ rfl))))
          go_wp2
          go_ret
          exact boolP HF.out.symm (drewN_below (HB0.out.trans (hb.mono HB0.out.size)) _)
      · have HF : Hid (pb (netP ss fs) = false) := Lib.hid (pb_false fun h => hnm (nameAt.find hks hs (h.2.2.1 k hks)).1)
        have CN : Hid (∀ W, Calls Try.prog 207 #[.string s] W fun e w' => e = .returned (.bool false) ∧ w' = W) := Lib.hid fun W =>
          (specName s W hsm).mono fun e w' ⟨h1, h2⟩ => ⟨by rw [h1, pb_false hnm], h2.symm⟩
        clear hs hnm hsm
        go_wp2
        go_quiet ((go_at_call 207; exact Calls.quiet_of_same (CN.out _)))
        go_wp2
        go_ret
        exact boolP HF.out.symm (drewN_below (HB0.out.trans (hb.mono HB0.out.size)) _)
    · have hkn : k = n1 := by omega
      subst hkn
      clear hlt
      go_wp2
      go_loopw [4] (fun i wr' => ∃ j : Nat, j ≤ n2 ∧ i = .int .i64 j ∧ (∀ l, l < j → fibAt fs k l) ∧ Below W0.heap.size W0 wr') (fun i _ => n2 - (intOf i).toNat)
      case atStart => exact ⟨0, Nat.zero_le _, rfl, fun j h => absurd h (by omega), hb⟩
      case round =>
        clear hc0 hc1 hb
        obtain ⟨j, hj, rfl, hfall, hb⟩ := hrel
        have HFA := Lib.hid hfall; clear hfall
        have hc0 := HK0.out; have hc1 := HK1.out
        rw [← hb.cell (p := ⟨w.heap.size, 0, none⟩) hz0] at hc0
        rw [← hb.cell (p := ⟨w.heap.size, 1, none⟩) hz0] at hc1
        by_cases hlt : j < n2
        · have hjs : j < fs.length := by have := HN2.out; omega
          obtain ⟨hg2, f0, f1, f2, f3⟩ := (HR2.out.over hb).q4c hjs
          rw [Nat.zero_add] at f0 f1 f2 f3
          obtain ⟨⟨a, b, c, d⟩, hq⟩ : ∃ q, fs[j]'hjs = q := ⟨_, rfl⟩
          rw [hq] at f0 f1 f2 f3
          simp only at f0 f1 f2 f3
          by_cases hfp : fibP ⟨a, b, c, d⟩ k
          · have CF : Hid (∀ W, Calls Try.prog 209 #[.agg #[.int .i64 a, .int .i64 b, .int .i64 c, .int .i64 d], .int .i64 k] W fun e w' => e = .returned (.bool true) ∧ Below W.heap.size W w') := Lib.hid fun W =>
              (specFib ⟨a, b, c, d⟩ k W hs1).mono fun e w' ⟨h1, h2⟩ => ⟨by rw [h1, pb_true hfp], h2⟩
            by_cases hj0 : j = 0
            · subst hj0
              have HS : Hid (∀ l, l < 0 + 1 → fibAt fs k l) := Lib.hid (by
                intro l hl h
                obtain rfl : l = 0 := by omega
                exact ⟨by rw [hq]; exact hfp, fun h0 => absurd h0 (by omega)⟩)
              clear hfp hq
              simp only [Nat.zero_mul, Nat.zero_add] at f0 f1 f2 f3
              go_wp2
              obtain ⟨T, f, x0, hx0, hT, HST⟩ := above wr
              haveI : Nonempty T := ⟨x0⟩
              have hgw : g2 < wr.heap.size := by have := hb.size; omega
              have hbw : w.heap.size < wr.heap.size := by have := hb.size; omega
              have r0 : ∀ x, (f x).cell? ⟨w.heap.size, 0, none⟩ = some (.slice (some ⟨g1, 0, none⟩) k c1) := fun x => ((hT x).cell (p := ⟨_, _, none⟩) hbw).trans hc0
              have r1 : ∀ x, (f x).cell? ⟨w.heap.size, 1, none⟩ = some (.slice (some ⟨g2, 0, none⟩) n2 c2) := fun x => ((hT x).cell (p := ⟨_, _, none⟩) hbw).trans hc1
              have r2 : ∀ x, (f x).cell? ⟨g2, 0, none⟩ = some (.int .i64 a) := fun x => ((hT x).cell (p := ⟨_, _, none⟩) hgw).trans f0
              have r3 : ∀ x, (f x).cell? ⟨g2, 1, none⟩ = some (.int .i64 b) := fun x => ((hT x).cell (p := ⟨_, _, none⟩) hgw).trans f1
              have r4 : ∀ x, (f x).cell? ⟨g2, 2, none⟩ = some (.int .i64 c) := fun x => ((hT x).cell (p := ⟨_, _, none⟩) hgw).trans f2
              have r5 : ∀ x, (f x).cell? ⟨g2, 3, none⟩ = some (.int .i64 d) := fun x => ((hT x).cell (p := ⟨_, _, none⟩) hgw).trans f3
              have HT := Lib.hid hT; have HX := Lib.hid hx0; clear hT hx0 hc0 hc1 f0 f1 f2 f3
              refine wp_region_class f (by kernel_rfl) (by kernel_rfl) x0 HX.out ?_
              repeat (go_big_quiet_step ((go_at_call 209; exact Calls.inClass HST (CF.out _))))
              refine wpQuiet_nil ?_
              rintro _ ⟨x, rfl⟩
              go_wp2
              go_roundw
              case rel => exact ⟨0 + 1, by omega, rfl, HS.out, hb.trans ((HT.out x).mono hb.size)⟩
              case measure => simp [intOf]; omega
            · obtain ⟨m, hjm⟩ : ∃ m, j = m + 1 := ⟨j - 1, by omega⟩
              have hwr := pred_wrap j m hjm (by omega)
              have hms : m < fs.length := by omega
              have hmn : (m : Int) < n2 := by omega
              obtain ⟨_, p0, p1, p2, p3⟩ := (HR2.out.over hb).q4c hms
              rw [Nat.zero_add] at p0 p1 p2 p3
              obtain ⟨⟨a', b', c', d'⟩, hqm⟩ : ∃ q, fs[m]'hms = q := ⟨_, rfl⟩
              have hfm := (HFA.out m (by omega) hms).1
              rw [hqm] at p0 p1 p2 p3 hfm
              simp only at p0 p1 p2 p3
              have HP : Hid (∀ h : j - 1 < fs.length, fs[j - 1] = ⟨a', b', c', d'⟩) := Lib.hid (fun h => by
                subst hjm
                exact hqm)
              have hd0 : decide (0 < j) = true := decide_eq_true (by omega)
              have hsm1 := hfm.small hs1
              have hsm2 := hfp.small hs1
              have CB : Hid (∀ W, Calls Try.prog 210 #[.agg #[.int .i64 a', .int .i64 b', .int .i64 c', .int .i64 d'], .agg #[.int .i64 a, .int .i64 b, .int .i64 c, .int .i64 d]] W fun e w' => e = .returned (.int .i64 (befV ⟨a', b', c', d'⟩ ⟨a, b, c, d⟩)) ∧ Below W.heap.size W w') := Lib.hid fun W =>
                specBef ⟨a', b', c', d'⟩ ⟨a, b, c, d⟩ W hsm1 hsm2
              have hpos := befV_pos ⟨a', b', c', d'⟩ ⟨a, b, c, d⟩
              obtain ⟨z, hz⟩ : ∃ z, befV ⟨a', b', c', d'⟩ ⟨a, b, c, d⟩ = z := ⟨_, rfl⟩
              rw [hz] at CB hpos
              have HPOS := Lib.hid hpos
              clear hpos hz hqm hjm hj0 hfm hsm1 hsm2
              by_cases hzp : 0 < z
              · have HF : Hid (pb (netP ss fs) = false) := Lib.hid (pb_false fun h => by
                  have := (h.2.2.2 j hjs hjs).2 (of_decide_eq_true hd0)
                  rw [hq, HP.out (by omega)] at this
                  exact this (HPOS.out.1 hzp))
                clear hfp hq
                go_wp2
                obtain ⟨T, f, x0, hx0, hT, HST⟩ := above wr
                haveI : Nonempty T := ⟨x0⟩
                have hgw : g2 < wr.heap.size := by have := hb.size; omega
                have hbw : w.heap.size < wr.heap.size := by have := hb.size; omega
                have r0 : ∀ x, (f x).cell? ⟨w.heap.size, 0, none⟩ = some (.slice (some ⟨g1, 0, none⟩) k c1) := fun x => ((hT x).cell (p := ⟨_, _, none⟩) hbw).trans hc0
                have r1 : ∀ x, (f x).cell? ⟨w.heap.size, 1, none⟩ = some (.slice (some ⟨g2, 0, none⟩) n2 c2) := fun x => ((hT x).cell (p := ⟨_, _, none⟩) hbw).trans hc1
                have r2 : ∀ x, (f x).cell? ⟨g2, j * 4, none⟩ = some (.int .i64 a) := fun x => ((hT x).cell (p := ⟨_, _, none⟩) hgw).trans f0
                have r3 : ∀ x, (f x).cell? ⟨g2, j * 4 + 1, none⟩ = some (.int .i64 b) := fun x => ((hT x).cell (p := ⟨_, _, none⟩) hgw).trans f1
                have r4 : ∀ x, (f x).cell? ⟨g2, j * 4 + 2, none⟩ = some (.int .i64 c) := fun x => ((hT x).cell (p := ⟨_, _, none⟩) hgw).trans f2
                have r5 : ∀ x, (f x).cell? ⟨g2, j * 4 + 3, none⟩ = some (.int .i64 d) := fun x => ((hT x).cell (p := ⟨_, _, none⟩) hgw).trans f3
                have r6 : ∀ x, (f x).cell? ⟨g2, m * 4, none⟩ = some (.int .i64 a') := fun x => ((hT x).cell (p := ⟨_, _, none⟩) hgw).trans p0
                have r7 : ∀ x, (f x).cell? ⟨g2, m * 4 + 1, none⟩ = some (.int .i64 b') := fun x => ((hT x).cell (p := ⟨_, _, none⟩) hgw).trans p1
                have r8 : ∀ x, (f x).cell? ⟨g2, m * 4 + 2, none⟩ = some (.int .i64 c') := fun x => ((hT x).cell (p := ⟨_, _, none⟩) hgw).trans p2
                have r9 : ∀ x, (f x).cell? ⟨g2, m * 4 + 3, none⟩ = some (.int .i64 d') := fun x => ((hT x).cell (p := ⟨_, _, none⟩) hgw).trans p3
                have HT := Lib.hid hT; have HX := Lib.hid hx0; clear hT hx0 hc0 hc1 f0 f1 f2 f3 p0 p1 p2 p3
                refine wp_region_class f (by kernel_rfl) (by kernel_rfl) x0 HX.out ?_
                repeat (go_big_quiet_step ((first | (go_at_call 209; exact Calls.inClass HST (CF.out _)) | (go_at_call 210; exact Calls.inClass HST (CB.out _)))))
                refine wpQuiet_nil ?_
                rintro _ ⟨x, rfl⟩
                clear hwr
                go_wp2
                go_ret
                exact boolP HF.out.symm ((HB0.out.trans (hb.mono HB0.out.size)).trans ((HT.out x).mono (by have := HB0.out.size; have := hb.size; omega)))
              · have HS : Hid (∀ l, l < j + 1 → fibAt fs k l) := Lib.hid (by
                  intro l hl h
                  by_cases hlj : l < j
                  · exact HFA.out l hlj h
                  · obtain rfl : l = j := by omega
                    refine ⟨by rw [hq]; exact hfp, fun h0 => ?_⟩
                    rw [hq, HP.out (by omega)]
                    exact fun hx => hzp (HPOS.out.2 hx))
                have hzn : z ≤ 0 := by omega
                clear hfp hq hzp
                go_wp2
                obtain ⟨T, f, x0, hx0, hT, HST⟩ := above wr
                haveI : Nonempty T := ⟨x0⟩
                have hgw : g2 < wr.heap.size := by have := hb.size; omega
                have hbw : w.heap.size < wr.heap.size := by have := hb.size; omega
                have r0 : ∀ x, (f x).cell? ⟨w.heap.size, 0, none⟩ = some (.slice (some ⟨g1, 0, none⟩) k c1) := fun x => ((hT x).cell (p := ⟨_, _, none⟩) hbw).trans hc0
                have r1 : ∀ x, (f x).cell? ⟨w.heap.size, 1, none⟩ = some (.slice (some ⟨g2, 0, none⟩) n2 c2) := fun x => ((hT x).cell (p := ⟨_, _, none⟩) hbw).trans hc1
                have r2 : ∀ x, (f x).cell? ⟨g2, j * 4, none⟩ = some (.int .i64 a) := fun x => ((hT x).cell (p := ⟨_, _, none⟩) hgw).trans f0
                have r3 : ∀ x, (f x).cell? ⟨g2, j * 4 + 1, none⟩ = some (.int .i64 b) := fun x => ((hT x).cell (p := ⟨_, _, none⟩) hgw).trans f1
                have r4 : ∀ x, (f x).cell? ⟨g2, j * 4 + 2, none⟩ = some (.int .i64 c) := fun x => ((hT x).cell (p := ⟨_, _, none⟩) hgw).trans f2
                have r5 : ∀ x, (f x).cell? ⟨g2, j * 4 + 3, none⟩ = some (.int .i64 d) := fun x => ((hT x).cell (p := ⟨_, _, none⟩) hgw).trans f3
                have r6 : ∀ x, (f x).cell? ⟨g2, m * 4, none⟩ = some (.int .i64 a') := fun x => ((hT x).cell (p := ⟨_, _, none⟩) hgw).trans p0
                have r7 : ∀ x, (f x).cell? ⟨g2, m * 4 + 1, none⟩ = some (.int .i64 b') := fun x => ((hT x).cell (p := ⟨_, _, none⟩) hgw).trans p1
                have r8 : ∀ x, (f x).cell? ⟨g2, m * 4 + 2, none⟩ = some (.int .i64 c') := fun x => ((hT x).cell (p := ⟨_, _, none⟩) hgw).trans p2
                have r9 : ∀ x, (f x).cell? ⟨g2, m * 4 + 3, none⟩ = some (.int .i64 d') := fun x => ((hT x).cell (p := ⟨_, _, none⟩) hgw).trans p3
                have HT := Lib.hid hT; have HX := Lib.hid hx0; clear hT hx0 hc0 hc1 f0 f1 f2 f3 p0 p1 p2 p3
                refine wp_region_class f (by kernel_rfl) (by kernel_rfl) x0 HX.out ?_
                repeat (go_big_quiet_step ((first | (go_at_call 209; exact Calls.inClass HST (CF.out _)) | (go_at_call 210; exact Calls.inClass HST (CB.out _)))))
                refine wpQuiet_nil ?_
                rintro _ ⟨x, rfl⟩
                clear hwr
                go_wp2
                go_roundw
                case rel => exact ⟨j + 1, by omega, by go_num, HS.out, hb.trans ((HT.out x).mono hb.size)⟩
                case measure => simp [intOf]; omega
          · have CF : Hid (∀ W, Calls Try.prog 209 #[.agg #[.int .i64 a, .int .i64 b, .int .i64 c, .int .i64 d], .int .i64 k] W fun e w' => e = .returned (.bool false) ∧ Below W.heap.size W w') := Lib.hid fun W =>
              (specFib ⟨a, b, c, d⟩ k W hs1).mono fun e w' ⟨h1, h2⟩ => ⟨by rw [h1, pb_false hfp], h2⟩
            have HF : Hid (pb (netP ss fs) = false) := Lib.hid (pb_false fun h => hfp (by
              have := (h.2.2.2 j hjs hjs).1
              rw [hq, HN1.out] at this
              exact this))
            clear hfp hq
            go_wp2
            obtain ⟨T, f, x0, hx0, hT, HST⟩ := above wr
            haveI : Nonempty T := ⟨x0⟩
            have hgw : g2 < wr.heap.size := by have := hb.size; omega
            have hbw : w.heap.size < wr.heap.size := by have := hb.size; omega
            have r0 : ∀ x, (f x).cell? ⟨w.heap.size, 0, none⟩ = some (.slice (some ⟨g1, 0, none⟩) k c1) := fun x => ((hT x).cell (p := ⟨_, _, none⟩) hbw).trans hc0
            have r1 : ∀ x, (f x).cell? ⟨w.heap.size, 1, none⟩ = some (.slice (some ⟨g2, 0, none⟩) n2 c2) := fun x => ((hT x).cell (p := ⟨_, _, none⟩) hbw).trans hc1
            have r2 : ∀ x, (f x).cell? ⟨g2, j * 4, none⟩ = some (.int .i64 a) := fun x => ((hT x).cell (p := ⟨_, _, none⟩) hgw).trans f0
            have r3 : ∀ x, (f x).cell? ⟨g2, j * 4 + 1, none⟩ = some (.int .i64 b) := fun x => ((hT x).cell (p := ⟨_, _, none⟩) hgw).trans f1
            have r4 : ∀ x, (f x).cell? ⟨g2, j * 4 + 2, none⟩ = some (.int .i64 c) := fun x => ((hT x).cell (p := ⟨_, _, none⟩) hgw).trans f2
            have r5 : ∀ x, (f x).cell? ⟨g2, j * 4 + 3, none⟩ = some (.int .i64 d) := fun x => ((hT x).cell (p := ⟨_, _, none⟩) hgw).trans f3
            have HT := Lib.hid hT; have HX := Lib.hid hx0; clear hT hx0 hc0 hc1 f0 f1 f2 f3
            refine wp_region_class f (by kernel_rfl) (by kernel_rfl) x0 HX.out ?_
            repeat (go_big_quiet_step ((go_at_call 209; exact Calls.inClass HST (CF.out _))))
            refine wpQuiet_nil ?_
            rintro _ ⟨x, rfl⟩
            go_wp2
            go_ret
            exact boolP HF.out.symm ((HB0.out.trans (hb.mono HB0.out.size)).trans ((HT.out x).mono (by have := HB0.out.size; have := hb.size; omega)))
        · have hjn : j = n2 := by omega
          have HT : Hid (pb (netP ss fs) = true) := Lib.hid (pb_true ⟨⟨by have := HN1.out; omega, by have := HN1.out; omega⟩, by have := HN2.out; omega, fun i hi => HA.out i (by have := HN1.out; omega), fun i hi => by rw [HN1.out]; exact HFA.out i (by have := HN2.out; omega)⟩)
          subst hjn
          clear hlt
          go_wp2
          go_ret
          exact boolP HT.out.symm (HB0.out.trans (hb.mono HB0.out.size))
end Go.Proofs.Ytcbjdfgmkiodkaa
