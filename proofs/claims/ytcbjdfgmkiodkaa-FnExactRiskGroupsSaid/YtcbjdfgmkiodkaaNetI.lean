/- Contract: impl.IsValidNetwork answers the plain word. No condition but those typed. -/
import Derived.Test.YtcbjdfgmkiodkaaNetV
import Derived.Lib.SlicesS
namespace Go.Proofs.Ytcbjdfgmkiodkaa
open Go.ChangeShapes Go.WideShapes Go.ChangeAt Go.RowKit

theorem nameAt.take {ss : List ByteArray} {k : Nat} {s : ByteArray} (hks : k < ss.length) (hs : ss[k] = s) : nameAt ss k ↔ (nameP s ∧ Lib.containsS (ss.take k) s = false) := by
  constructor
  · intro h
    have h := h hks
    refine ⟨by rw [← hs]; exact h.1, ?_⟩
    rw [Bool.eq_false_iff]
    intro hc
    obtain ⟨j, hj, e⟩ := List.getElem_of_mem ((Lib.containsS_iff _ _).1 hc)
    rw [List.length_take] at hj
    have := h.2 j (by omega)
    rw [List.getElem_take] at e
    exact this (by rw [e, hs])
  · rintro ⟨h1, h2⟩ h
    refine ⟨by rw [hs]; exact h1, fun j hj he => ?_⟩
    rw [hs] at he
    have : s ∈ ss.take k := by
      rw [← tl_inj he]
      exact List.mem_of_getElem? (i := j) (by rw [List.getElem?_take, if_pos hj, List.getElem?_eq_getElem (by omega)])
    rw [(Lib.containsS_iff _ _).2 this] at h2
    cases h2

set_option maxRecDepth 100000 in
set_option maxHeartbeats 4000000 in
theorem implNet (g1 g2 n1 n2 c1 c2 : Nat) (ss : List ByteArray) (fs : List Q4) (w : World) (hn1 : ss.length = n1) (hs1 : n1 ≤ 1048576) (hcap : n1 ≤ c1) (hr1 : Rd w w.heap.size (some ⟨g1, 0, none⟩) (ss.map Value.string)) (hws : ∀ s ∈ ss, s.size ≤ maxLen)
    (hn2 : fs.length = n2) (hs2 : n2 ≤ 1048576) (hr2 : Rd w w.heap.size (some ⟨g2, 0, none⟩) (fs.flatMap Q4.cells)) :
    Calls Try.prog 120 #[.agg #[.slice (some ⟨g1, 0, none⟩) n1 c1, .slice (some ⟨g2, 0, none⟩) n2 c2]] w (BoolP (pb (netP ss fs)) w) := by
  have HN1 := Lib.hid hn1; have HN2 := Lib.hid hn2; have HWS := Lib.hid hws; clear hn1 hn2 hws
  have HB0 := Lib.hid ((Below.refl w.heap.size w).alloc (Nat.le_refl _) (Obj.cells #[.slice (some ⟨g1, 0, none⟩) n1 c1, .slice (some ⟨g2, 0, none⟩) n2 c2] 32))
  by_cases hl : 2 ≤ n1 ∧ n1 ≤ 8
  case neg =>
    have HF : Hid (pb (netP ss fs) = false) := Lib.hid (pb_false fun h => hl (by have := h.1; have := HN1.out; omega))
    have q : (n1 : Int) < 2 ∨ 8 < (n1 : Int) := by omega
    clear hl
    rcases q with q | q
    all_goals
      go_enter Try.func120, Try.ntmps120
      go_wp2
      go_ret
      exact boolP HF.out.symm HB0.out
  case pos =>
  obtain ⟨hl1, hl2⟩ := hl
  have hl1' : 2 ≤ (n1 : Int) := by omega
  have hl2' : (n1 : Int) ≤ 8 := by omega
  by_cases h14 : n2 ≤ 14
  case neg =>
    have HF : Hid (pb (netP ss fs) = false) := Lib.hid (pb_false fun h => h14 (by have := h.2.1; have := HN2.out; omega))
    have q : 14 < (n2 : Int) := by omega
    clear h14
    go_enter Try.func120, Try.ntmps120
    go_wp2
    go_ret
    exact boolP HF.out.symm HB0.out
  case pos =>
  have q14 : (n2 : Int) ≤ 14 := by omega
  go_enter Try.func120, Try.ntmps120
  go_wp2
  obtain ⟨W0, hW0⟩ : ∃ W0, (w.alloc (Obj.cells #[.slice (some ⟨g1, 0, none⟩) n1 c1, .slice (some ⟨g2, 0, none⟩) n2 c2] 32)) = W0 := ⟨_, rfl⟩
  have hk0 : W0.cell? ⟨w.heap.size, 0, none⟩ = some (.slice (some ⟨g1, 0, none⟩) n1 c1) := by rw [← hW0]; simp [go_sem]
  have hk1 : W0.cell? ⟨w.heap.size, 1, none⟩ = some (.slice (some ⟨g2, 0, none⟩) n2 c2) := by rw [← hW0]; simp [go_sem]
  have hz0 : w.heap.size < W0.heap.size := by rw [← hW0]; simp
  rw [hW0] at HB0 ⊢
  clear hW0
  have HR1 := Lib.hid (hr1.moved HB0.out); have HR2 := Lib.hid (hr2.moved HB0.out)
  have HK0 := Lib.hid hk0; have HK1 := Lib.hid hk1
  clear hr1 hr2 hk0 hk1
  go_loopw [26] (fun i wr => ∃ k : Nat, k ≤ n1 ∧ i = .int .i64 k ∧ (∀ j, j < k → nameAt ss j) ∧ Below W0.heap.size W0 wr) (fun i _ => n1 - (intOf i).toNat)
  case atStart => exact ⟨0, Nat.zero_le _, rfl, fun j h => absurd h (by omega), Below.refl _ _⟩
  case round =>
    obtain ⟨k, hk, rfl, hall, hb⟩ := hrel
    have HA := Lib.hid hall; clear hall
    have hc0 := HK0.out; have hc1 := HK1.out
    rw [← hb.cell (p := ⟨w.heap.size, 0, none⟩) hz0] at hc0
    rw [← hb.cell (p := ⟨w.heap.size, 1, none⟩) hz0] at hc1
    by_cases hlt : k < n1
    · have hks : k < ss.length := by have := HN1.out; omega
      have hrall : ∀ j, j < ss.length → wr.cell? ⟨g1, 0 + j, none⟩ = some (.string (ss.getD j ByteArray.empty)) := by
        intro j hj
        obtain ⟨ad, e, _, hcell⟩ := (HR1.out.over hb).got (k := j) (by simpa using hj)
        injection e with e; subst e
        have ea : (⟨g1, 0, none⟩ : Addr).add j = ⟨g1, j, none⟩ := by unfold Addr.add; by_cases h : j = 0 <;> simp [h]
        rw [ea, strGet ss j hj] at hcell
        rw [Nat.zero_add, hcell, List.getD_eq_getElem?_getD, List.getElem?_eq_getElem hj]; rfl
      have hcell : wr.cell? ⟨g1, k, none⟩ = some (.string ss[k]) := by
        have := hrall k hks
        rw [Nat.zero_add, List.getD_eq_getElem?_getD, List.getElem?_eq_getElem hks] at this; exact this
      obtain ⟨s, hs⟩ : ∃ s, ss[k]'hks = s := ⟨_, rfl⟩
      have hsm : s.size ≤ maxLen := by rw [← hs]; exact HWS.out _ (List.getElem_mem hks)
      rw [hs] at hcell
      have hkc : (k : Int) ≤ (c1 : Int) := by omega
      have hiff := nameAt.take hks hs
      by_cases hnm : nameP s
      · have CN : Hid (∀ W, Calls Try.prog 213 #[.string s] W fun e w' => e = .returned (.bool true) ∧ W = w') := Lib.hid fun W =>
          (implName s W hsm).mono fun e w' ⟨h1, h2⟩ => ⟨by rw [h1, pb_true hnm], h2⟩
        have CC := Lib.hid (Try.slices_Contains_string g1 0 k c1 ss s wr (by omega) (by omega) hrall)
        by_cases hct : Lib.containsS (ss.take k) s = false
        · have HS : Hid (∀ j, j < k + 1 → nameAt ss j) := Lib.hid (by
            intro j hj
            by_cases hjk : j < k
            · exact HA.out j hjk
            · obtain rfl : j = k := by omega
              exact hiff.2 ⟨hnm, hct⟩)
          rw [hct] at CC
          clear hct hs hnm hsm hiff hrall
          go_wp2_with (first | (go_at_call 213; refine (CN.out _).mono ?_; rintro e w' ⟨rfl, rfl⟩) | (go_at_call 214; refine CC.out.mono ?_; rintro e w' ⟨rfl, rfl⟩))
          go_roundw
          case rel => exact ⟨k + 1, by omega, by go_num, HS.out, hb⟩
          case measure => simp [intOf]; omega
        · have hct' : Lib.containsS (ss.take k) s = true := by simpa using hct
          have HF : Hid (pb (netP ss fs) = false) := Lib.hid (pb_false fun h => hct (hiff.1 (h.2.2.1 k hks)).2)
          rw [hct'] at CC
          clear hct hct' hs hnm hsm hiff hrall
          go_wp2_with (first | (go_at_call 213; refine (CN.out _).mono ?_; rintro e w' ⟨rfl, rfl⟩) | (go_at_call 214; refine CC.out.mono ?_; rintro e w' ⟨rfl, rfl⟩))
          go_ret
          exact boolP HF.out.symm (HB0.out.trans (hb.mono HB0.out.size))
      · have HF : Hid (pb (netP ss fs) = false) := Lib.hid (pb_false fun h => hnm (hiff.1 (h.2.2.1 k hks)).1)
        have CN : Hid (∀ W, Calls Try.prog 213 #[.string s] W fun e w' => e = .returned (.bool false) ∧ W = w') := Lib.hid fun W =>
          (implName s W hsm).mono fun e w' ⟨h1, h2⟩ => ⟨by rw [h1, pb_false hnm], h2⟩
        clear hs hnm hsm hiff hrall
        go_wp2_with (go_at_call 213; refine (CN.out _).mono ?_; rintro e w' ⟨rfl, rfl⟩)
        go_ret
        exact boolP HF.out.symm (HB0.out.trans (hb.mono HB0.out.size))
    · have hkn : k = n1 := by omega
      subst hkn
      clear hlt
      go_wp2
      go_loopw [46] (fun i wr' => ∃ j : Nat, j ≤ n2 ∧ i = .int .i64 j ∧ (∀ l, l < j → fibAt fs k l) ∧ Below W0.heap.size W0 wr') (fun i _ => n2 - (intOf i).toNat)
      case atStart => exact ⟨0, Nat.zero_le _, rfl, fun j h => absurd h (by omega), hb⟩
      case round =>
        clear hc0 hc1 hb
        obtain ⟨j, hj, rfl, hfall, hb⟩ := hrel
        have HFA := Lib.hid hfall; clear hfall
        have hc0 := HK0.out; have hc1 := HK1.out
        rw [← hb.cell (p := ⟨w.heap.size, 0, none⟩) hz0] at hc0
        rw [← hb.cell (p := ⟨w.heap.size, 1, none⟩) hz0] at hc1
        by_cases hlt : j < n2
        · have hjs : j < fs.length := by have := HN2.out; omega
          obtain ⟨hg2, f0, f1, f2, f3⟩ := (HR2.out.over hb).q4c hjs
          rw [Nat.zero_add] at f0 f1 f2 f3
          obtain ⟨⟨a, b, c, d⟩, hq⟩ : ∃ q, fs[j]'hjs = q := ⟨_, rfl⟩
          rw [hq] at f0 f1 f2 f3
          simp only at f0 f1 f2 f3
          by_cases hfp : fibP ⟨a, b, c, d⟩ k
          · have CF : Hid (∀ W, Calls Try.prog 215 #[.agg #[.int .i64 a, .int .i64 b, .int .i64 c, .int .i64 d], .int .i64 k] W fun e w' => e = .returned (.bool true) ∧ Below W.heap.size W w') := Lib.hid fun W =>
              (among_any ⟨a, b, c, d⟩ k W hs1).mono fun e w' ⟨h1, h2⟩ => ⟨by rw [h1, pb_true hfp], h2⟩
            by_cases hj0 : j = 0
            · subst hj0
              have HS : Hid (∀ l, l < 0 + 1 → fibAt fs k l) := Lib.hid (by
                intro l hl h
                obtain rfl : l = 0 := by omega
                exact ⟨by rw [hq]; exact hfp, fun h0 => absurd h0 (by omega)⟩)
              clear hfp hq
              simp only [Nat.zero_mul, Nat.zero_add] at f0 f1 f2 f3
              go_wp2_with fail
              obtain ⟨W1, hW1⟩ : ∃ W1, (wr.alloc (Obj.cells #[.int .i64 a, .int .i64 b, .int .i64 c, .int .i64 d] 172)) = W1 := ⟨_, rfl⟩
              have hb1 : Below W0.heap.size W0 W1 := by rw [← hW1]; exact hb.alloc hb.size _
              have hlast : wr.heap.size < W1.heap.size := by rw [← hW1]; simp
              have e0 : W1.cell? ⟨wr.heap.size, 0, none⟩ = some (.int .i64 a) := by rw [← hW1]; simp [go_sem]
              have e1 : W1.cell? ⟨wr.heap.size, 1, none⟩ = some (.int .i64 b) := by rw [← hW1]; simp [go_sem]
              have e2 : W1.cell? ⟨wr.heap.size, 2, none⟩ = some (.int .i64 c) := by rw [← hW1]; simp [go_sem]
              have e3 : W1.cell? ⟨wr.heap.size, 3, none⟩ = some (.int .i64 d) := by rw [← hW1]; simp [go_sem]
              rw [hW1]
              clear hW1 f0 f1 f2 f3
              obtain ⟨T, f, x0, hx0, hT, HST⟩ := above W1
              haveI : Nonempty T := ⟨x0⟩
              have hbw : w.heap.size < W0.heap.size := hz0
              have r0 : ∀ x, (f x).cell? ⟨w.heap.size, 0, none⟩ = some (.slice (some ⟨g1, 0, none⟩) k c1) := fun x => ((hb1.trans ((hT x).mono hb1.size)).cell (p := ⟨w.heap.size, 0, none⟩) hbw).trans HK0.out
              have r1 : ∀ x, (f x).cell? ⟨w.heap.size, 1, none⟩ = some (.slice (some ⟨g2, 0, none⟩) n2 c2) := fun x => ((hb1.trans ((hT x).mono hb1.size)).cell (p := ⟨w.heap.size, 1, none⟩) hbw).trans HK1.out
              have r2 : ∀ x, (f x).cell? ⟨wr.heap.size, 0, none⟩ = some (.int .i64 a) := fun x => ((hT x).cell (p := ⟨_, _, none⟩) hlast).trans e0
              have r3 : ∀ x, (f x).cell? ⟨wr.heap.size, 1, none⟩ = some (.int .i64 b) := fun x => ((hT x).cell (p := ⟨_, _, none⟩) hlast).trans e1
              have r4 : ∀ x, (f x).cell? ⟨wr.heap.size, 2, none⟩ = some (.int .i64 c) := fun x => ((hT x).cell (p := ⟨_, _, none⟩) hlast).trans e2
              have r5 : ∀ x, (f x).cell? ⟨wr.heap.size, 3, none⟩ = some (.int .i64 d) := fun x => ((hT x).cell (p := ⟨_, _, none⟩) hlast).trans e3
              have HT := Lib.hid (fun x => hb1.trans ((hT x).mono hb1.size)); have HX := Lib.hid hx0
              clear hT hx0 hc0 hc1 e0 e1 e2 e3
              refine wp_region_class f (by kernel_rfl) (by kernel_rfl) x0 HX.out ?_
              repeat (go_big_quiet_step ((go_at_call 215; exact Calls.inClass HST (CF.out _))))
              refine wpQuiet_nil ?_
              rintro _ ⟨x, rfl⟩
              go_wp2
              go_roundw
              case rel => exact ⟨0 + 1, by omega, rfl, HS.out, HT.out x⟩
              case measure => simp [intOf]; omega
            · obtain ⟨m, hjm⟩ : ∃ m, j = m + 1 := ⟨j - 1, by omega⟩
              have hwr := pred_wrap j m hjm (by omega)
              have hms : m < fs.length := by omega
              have hmn : (m : Int) < n2 := by omega
              obtain ⟨_, p0, p1, p2, p3⟩ := (HR2.out).q4c hms
              rw [Nat.zero_add] at p0 p1 p2 p3
              obtain ⟨⟨a', b', c', d'⟩, hqm⟩ : ∃ q, fs[m]'hms = q := ⟨_, rfl⟩
              rw [hqm] at p0 p1 p2 p3
              have HPC : Hid (W0.cell? ⟨g2, m * 4, none⟩ = some (.int .i64 a') ∧ W0.cell? ⟨g2, m * 4 + 1, none⟩ = some (.int .i64 b') ∧ W0.cell? ⟨g2, m * 4 + 2, none⟩ = some (.int .i64 c') ∧ W0.cell? ⟨g2, m * 4 + 3, none⟩ = some (.int .i64 d')) := Lib.hid ⟨p0, p1, p2, p3⟩
              have HP : Hid (∀ h : j - 1 < fs.length, fs[j - 1] = ⟨a', b', c', d'⟩) := Lib.hid (fun h => by
                subst hjm
                exact hqm)
              have hd0 : decide (0 < j) = true := decide_eq_true (by omega)
              clear p0 p1 p2 p3 hqm hjm hj0
              by_cases hx : lexLt ⟨a, b, c, d⟩ ⟨a', b', c', d'⟩
              · have CB : Hid (∀ W, Calls Try.prog 216 #[.agg #[.int .i64 a, .int .i64 b, .int .i64 c, .int .i64 d], .agg #[.int .i64 a', .int .i64 b', .int .i64 c', .int .i64 d']] W fun e w' => e = .returned (.bool true) ∧ Below W.heap.size W w') := Lib.hid fun W =>
                  (less_any ⟨a, b, c, d⟩ ⟨a', b', c', d'⟩ W).mono fun e w' ⟨h1, h2⟩ => ⟨by rw [h1, pb_true hx], h2⟩
                have HF : Hid (pb (netP ss fs) = false) := Lib.hid (pb_false fun h => by
                  have := (h.2.2.2 j hjs hjs).2 (of_decide_eq_true hd0)
                  rw [hq, HP.out (by omega)] at this
                  exact this hx)
                clear hfp hq hx
                go_wp2_with fail
                obtain ⟨W1, hW1⟩ : ∃ W1, (wr.alloc (Obj.cells #[.int .i64 a, .int .i64 b, .int .i64 c, .int .i64 d] 172)) = W1 := ⟨_, rfl⟩
                have hb1 : Below W0.heap.size W0 W1 := by rw [← hW1]; exact hb.alloc hb.size _
                have hlast : wr.heap.size < W1.heap.size := by rw [← hW1]; simp
                have e0 : W1.cell? ⟨wr.heap.size, 0, none⟩ = some (.int .i64 a) := by rw [← hW1]; simp [go_sem]
                have e1 : W1.cell? ⟨wr.heap.size, 1, none⟩ = some (.int .i64 b) := by rw [← hW1]; simp [go_sem]
                have e2 : W1.cell? ⟨wr.heap.size, 2, none⟩ = some (.int .i64 c) := by rw [← hW1]; simp [go_sem]
                have e3 : W1.cell? ⟨wr.heap.size, 3, none⟩ = some (.int .i64 d) := by rw [← hW1]; simp [go_sem]
                rw [hW1]
                clear hW1 f0 f1 f2 f3
                obtain ⟨T, f, x0, hx0, hT, HST⟩ := above W1
                haveI : Nonempty T := ⟨x0⟩
                have hbw : w.heap.size < W0.heap.size := hz0
                have r0 : ∀ x, (f x).cell? ⟨w.heap.size, 0, none⟩ = some (.slice (some ⟨g1, 0, none⟩) k c1) := fun x => ((hb1.trans ((hT x).mono hb1.size)).cell (p := ⟨w.heap.size, 0, none⟩) hbw).trans HK0.out
                have r1 : ∀ x, (f x).cell? ⟨w.heap.size, 1, none⟩ = some (.slice (some ⟨g2, 0, none⟩) n2 c2) := fun x => ((hb1.trans ((hT x).mono hb1.size)).cell (p := ⟨w.heap.size, 1, none⟩) hbw).trans HK1.out
                have r2 : ∀ x, (f x).cell? ⟨wr.heap.size, 0, none⟩ = some (.int .i64 a) := fun x => ((hT x).cell (p := ⟨_, _, none⟩) hlast).trans e0
                have r3 : ∀ x, (f x).cell? ⟨wr.heap.size, 1, none⟩ = some (.int .i64 b) := fun x => ((hT x).cell (p := ⟨_, _, none⟩) hlast).trans e1
                have r4 : ∀ x, (f x).cell? ⟨wr.heap.size, 2, none⟩ = some (.int .i64 c) := fun x => ((hT x).cell (p := ⟨_, _, none⟩) hlast).trans e2
                have r5 : ∀ x, (f x).cell? ⟨wr.heap.size, 3, none⟩ = some (.int .i64 d) := fun x => ((hT x).cell (p := ⟨_, _, none⟩) hlast).trans e3
                have r6 : ∀ x, (f x).cell? ⟨g2, m * 4, none⟩ = some (.int .i64 a') := fun x => ((hb1.trans ((hT x).mono hb1.size)).cell (p := ⟨_, _, none⟩) hg2).trans (HPC.out.1)
                have r7 : ∀ x, (f x).cell? ⟨g2, m * 4 + 1, none⟩ = some (.int .i64 b') := fun x => ((hb1.trans ((hT x).mono hb1.size)).cell (p := ⟨_, _, none⟩) hg2).trans (HPC.out.2.1)
                have r8 : ∀ x, (f x).cell? ⟨g2, m * 4 + 2, none⟩ = some (.int .i64 c') := fun x => ((hb1.trans ((hT x).mono hb1.size)).cell (p := ⟨_, _, none⟩) hg2).trans (HPC.out.2.2.1)
                have r9 : ∀ x, (f x).cell? ⟨g2, m * 4 + 3, none⟩ = some (.int .i64 d') := fun x => ((hb1.trans ((hT x).mono hb1.size)).cell (p := ⟨_, _, none⟩) hg2).trans (HPC.out.2.2.2)
                have HT := Lib.hid (fun x => hb1.trans ((hT x).mono hb1.size)); have HX := Lib.hid hx0
                clear hT hx0 hc0 hc1 e0 e1 e2 e3
                refine wp_region_class f (by kernel_rfl) (by kernel_rfl) x0 HX.out ?_
                repeat (go_big_quiet_step ((first | (go_at_call 215; exact Calls.inClass HST (CF.out _)) | (go_at_call 216; exact Calls.inClass HST (CB.out _)))))
                refine wpQuiet_nil ?_
                rintro _ ⟨x, rfl⟩
                clear hwr
                go_wp2
                go_ret
                exact boolP HF.out.symm (HB0.out.trans ((HT.out x).mono HB0.out.size))
              · have CB : Hid (∀ W, Calls Try.prog 216 #[.agg #[.int .i64 a, .int .i64 b, .int .i64 c, .int .i64 d], .agg #[.int .i64 a', .int .i64 b', .int .i64 c', .int .i64 d']] W fun e w' => e = .returned (.bool false) ∧ Below W.heap.size W w') := Lib.hid fun W =>
                  (less_any ⟨a, b, c, d⟩ ⟨a', b', c', d'⟩ W).mono fun e w' ⟨h1, h2⟩ => ⟨by rw [h1, pb_false hx], h2⟩
                have HS : Hid (∀ l, l < j + 1 → fibAt fs k l) := Lib.hid (by
                  intro l hl h
                  by_cases hlj : l < j
                  · exact HFA.out l hlj h
                  · obtain rfl : l = j := by omega
                    refine ⟨by rw [hq]; exact hfp, fun h0 => ?_⟩
                    rw [hq, HP.out (by omega)]
                    exact hx)
                clear hfp hq hx
                go_wp2_with fail
                obtain ⟨W1, hW1⟩ : ∃ W1, (wr.alloc (Obj.cells #[.int .i64 a, .int .i64 b, .int .i64 c, .int .i64 d] 172)) = W1 := ⟨_, rfl⟩
                have hb1 : Below W0.heap.size W0 W1 := by rw [← hW1]; exact hb.alloc hb.size _
                have hlast : wr.heap.size < W1.heap.size := by rw [← hW1]; simp
                have e0 : W1.cell? ⟨wr.heap.size, 0, none⟩ = some (.int .i64 a) := by rw [← hW1]; simp [go_sem]
                have e1 : W1.cell? ⟨wr.heap.size, 1, none⟩ = some (.int .i64 b) := by rw [← hW1]; simp [go_sem]
                have e2 : W1.cell? ⟨wr.heap.size, 2, none⟩ = some (.int .i64 c) := by rw [← hW1]; simp [go_sem]
                have e3 : W1.cell? ⟨wr.heap.size, 3, none⟩ = some (.int .i64 d) := by rw [← hW1]; simp [go_sem]
                rw [hW1]
                clear hW1 f0 f1 f2 f3
                obtain ⟨T, f, x0, hx0, hT, HST⟩ := above W1
                haveI : Nonempty T := ⟨x0⟩
                have hbw : w.heap.size < W0.heap.size := hz0
                have r0 : ∀ x, (f x).cell? ⟨w.heap.size, 0, none⟩ = some (.slice (some ⟨g1, 0, none⟩) k c1) := fun x => ((hb1.trans ((hT x).mono hb1.size)).cell (p := ⟨w.heap.size, 0, none⟩) hbw).trans HK0.out
                have r1 : ∀ x, (f x).cell? ⟨w.heap.size, 1, none⟩ = some (.slice (some ⟨g2, 0, none⟩) n2 c2) := fun x => ((hb1.trans ((hT x).mono hb1.size)).cell (p := ⟨w.heap.size, 1, none⟩) hbw).trans HK1.out
                have r2 : ∀ x, (f x).cell? ⟨wr.heap.size, 0, none⟩ = some (.int .i64 a) := fun x => ((hT x).cell (p := ⟨_, _, none⟩) hlast).trans e0
                have r3 : ∀ x, (f x).cell? ⟨wr.heap.size, 1, none⟩ = some (.int .i64 b) := fun x => ((hT x).cell (p := ⟨_, _, none⟩) hlast).trans e1
                have r4 : ∀ x, (f x).cell? ⟨wr.heap.size, 2, none⟩ = some (.int .i64 c) := fun x => ((hT x).cell (p := ⟨_, _, none⟩) hlast).trans e2
                have r5 : ∀ x, (f x).cell? ⟨wr.heap.size, 3, none⟩ = some (.int .i64 d) := fun x => ((hT x).cell (p := ⟨_, _, none⟩) hlast).trans e3
                have r6 : ∀ x, (f x).cell? ⟨g2, m * 4, none⟩ = some (.int .i64 a') := fun x => ((hb1.trans ((hT x).mono hb1.size)).cell (p := ⟨_, _, none⟩) hg2).trans (HPC.out.1)
                have r7 : ∀ x, (f x).cell? ⟨g2, m * 4 + 1, none⟩ = some (.int .i64 b') := fun x => ((hb1.trans ((hT x).mono hb1.size)).cell (p := ⟨_, _, none⟩) hg2).trans (HPC.out.2.1)
                have r8 : ∀ x, (f x).cell? ⟨g2, m * 4 + 2, none⟩ = some (.int .i64 c') := fun x => ((hb1.trans ((hT x).mono hb1.size)).cell (p := ⟨_, _, none⟩) hg2).trans (HPC.out.2.2.1)
                have r9 : ∀ x, (f x).cell? ⟨g2, m * 4 + 3, none⟩ = some (.int .i64 d') := fun x => ((hb1.trans ((hT x).mono hb1.size)).cell (p := ⟨_, _, none⟩) hg2).trans (HPC.out.2.2.2)
                have HT := Lib.hid (fun x => hb1.trans ((hT x).mono hb1.size)); have HX := Lib.hid hx0
                clear hT hx0 hc0 hc1 e0 e1 e2 e3
                refine wp_region_class f (by kernel_rfl) (by kernel_rfl) x0 HX.out ?_
                repeat (go_big_quiet_step ((first | (go_at_call 215; exact Calls.inClass HST (CF.out _)) | (go_at_call 216; exact Calls.inClass HST (CB.out _)))))
                refine wpQuiet_nil ?_
                rintro _ ⟨x, rfl⟩
                clear hwr
                go_wp2
                go_roundw
                case rel => exact ⟨j + 1, by omega, by go_num, HS.out, HT.out x⟩
                case measure => simp [intOf]; omega
          · have CF : Hid (∀ W, Calls Try.prog 215 #[.agg #[.int .i64 a, .int .i64 b, .int .i64 c, .int .i64 d], .int .i64 k] W fun e w' => e = .returned (.bool false) ∧ Below W.heap.size W w') := Lib.hid fun W =>
              (among_any ⟨a, b, c, d⟩ k W hs1).mono fun e w' ⟨h1, h2⟩ => ⟨by rw [h1, pb_false hfp], h2⟩
            have HF : Hid (pb (netP ss fs) = false) := Lib.hid (pb_false fun h => hfp (by
              have := (h.2.2.2 j hjs hjs).1
              rw [hq, HN1.out] at this
              exact this))
            clear hfp hq
            go_wp2_with fail
            obtain ⟨W1, hW1⟩ : ∃ W1, (wr.alloc (Obj.cells #[.int .i64 a, .int .i64 b, .int .i64 c, .int .i64 d] 172)) = W1 := ⟨_, rfl⟩
            have hb1 : Below W0.heap.size W0 W1 := by rw [← hW1]; exact hb.alloc hb.size _
            have hlast : wr.heap.size < W1.heap.size := by rw [← hW1]; simp
            have e0 : W1.cell? ⟨wr.heap.size, 0, none⟩ = some (.int .i64 a) := by rw [← hW1]; simp [go_sem]
            have e1 : W1.cell? ⟨wr.heap.size, 1, none⟩ = some (.int .i64 b) := by rw [← hW1]; simp [go_sem]
            have e2 : W1.cell? ⟨wr.heap.size, 2, none⟩ = some (.int .i64 c) := by rw [← hW1]; simp [go_sem]
            have e3 : W1.cell? ⟨wr.heap.size, 3, none⟩ = some (.int .i64 d) := by rw [← hW1]; simp [go_sem]
            rw [hW1]
            clear hW1 f0 f1 f2 f3
            obtain ⟨T, f, x0, hx0, hT, HST⟩ := above W1
            haveI : Nonempty T := ⟨x0⟩
            have hbw : w.heap.size < W0.heap.size := hz0
            have r0 : ∀ x, (f x).cell? ⟨w.heap.size, 0, none⟩ = some (.slice (some ⟨g1, 0, none⟩) k c1) := fun x => ((hb1.trans ((hT x).mono hb1.size)).cell (p := ⟨w.heap.size, 0, none⟩) hbw).trans HK0.out
            have r1 : ∀ x, (f x).cell? ⟨w.heap.size, 1, none⟩ = some (.slice (some ⟨g2, 0, none⟩) n2 c2) := fun x => ((hb1.trans ((hT x).mono hb1.size)).cell (p := ⟨w.heap.size, 1, none⟩) hbw).trans HK1.out
            have r2 : ∀ x, (f x).cell? ⟨wr.heap.size, 0, none⟩ = some (.int .i64 a) := fun x => ((hT x).cell (p := ⟨_, _, none⟩) hlast).trans e0
            have r3 : ∀ x, (f x).cell? ⟨wr.heap.size, 1, none⟩ = some (.int .i64 b) := fun x => ((hT x).cell (p := ⟨_, _, none⟩) hlast).trans e1
            have r4 : ∀ x, (f x).cell? ⟨wr.heap.size, 2, none⟩ = some (.int .i64 c) := fun x => ((hT x).cell (p := ⟨_, _, none⟩) hlast).trans e2
            have r5 : ∀ x, (f x).cell? ⟨wr.heap.size, 3, none⟩ = some (.int .i64 d) := fun x => ((hT x).cell (p := ⟨_, _, none⟩) hlast).trans e3
            have HT := Lib.hid (fun x => hb1.trans ((hT x).mono hb1.size)); have HX := Lib.hid hx0
            clear hT hx0 hc0 hc1 e0 e1 e2 e3
            refine wp_region_class f (by kernel_rfl) (by kernel_rfl) x0 HX.out ?_
            repeat (go_big_quiet_step ((go_at_call 215; exact Calls.inClass HST (CF.out _))))
            refine wpQuiet_nil ?_
            rintro _ ⟨x, rfl⟩
            go_wp2
            go_ret
            exact boolP HF.out.symm (HB0.out.trans ((HT.out x).mono HB0.out.size))
        · have hjn : j = n2 := by omega
          have HT : Hid (pb (netP ss fs) = true) := Lib.hid (pb_true ⟨⟨by have := HN1.out; omega, by have := HN1.out; omega⟩, by have := HN2.out; omega, fun i hi => HA.out i (by have := HN1.out; omega), fun i hi => by rw [HN1.out]; exact HFA.out i (by have := HN2.out; omega)⟩)
          subst hjn
          clear hlt
          go_wp2
          go_ret
          exact boolP HT.out.symm (HB0.out.trans (hb.mono HB0.out.size))

end Go.Proofs.Ytcbjdfgmkiodkaa
