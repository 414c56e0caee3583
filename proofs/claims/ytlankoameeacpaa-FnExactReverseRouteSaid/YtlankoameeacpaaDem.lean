/- Contracts: impl.IsValidDemands and spec.IsValidDemands answer the same plain word. No condition but those typed. -/
import Derived.Test.YtlankoameeacpaaNetA
namespace Go.Proofs.Ytlankoameeacpaa
open Go.ChangeShapes Go.WideShapes Go.ChangeAt Go.RowKit

def demP (q : Q4) (n : Nat) : Prop := (0 ≤ q.a ∧ q.a ≤ (n : Int) - 1) ∧ (0 ≤ q.b ∧ q.b ≤ (n : Int) - 1) ∧ q.a ≠ q.b ∧ (1 ≤ q.c ∧ q.c ≤ 1000) ∧ (0 ≤ q.d ∧ q.d ≤ 2)
def demsP (ss : List ByteArray) (fs ds : List Q4) : Prop := ds.length ≤ 12 ∧ (∀ i (h : i < ds.length), demP ds[i] ss.length) ∧ netP ss fs

theorem isNode_yes {g1 g2 n1 n2 c1 c2 : Nat} (i : Int) (w : World) (h0 : 0 ≤ i) (h1 : i < n1) :
    Calls Try.prog 91 #[.agg #[.slice (some ⟨g1, 0, none⟩) n1 c1, .slice (some ⟨g2, 0, none⟩) n2 c2], .int .i64 i] w fun e w' => e = .returned (.bool true) ∧ Below w.heap.size w w' := by
  have HB := Lib.hid ((Below.refl w.heap.size w).alloc (Nat.le_refl _) (Obj.cells #[.slice (some ⟨g1, 0, none⟩) n1 c1, .slice (some ⟨g2, 0, none⟩) n2 c2] 42))
  go_enter Try.func91, Try.ntmps91
  go_wp2
  go_ret
  exact ⟨rfl, HB.out⟩
theorem isNode_no {g1 g2 n1 n2 c1 c2 : Nat} (i : Int) (w : World) (h : i < 0 ∨ n1 ≤ i) :
    Calls Try.prog 91 #[.agg #[.slice (some ⟨g1, 0, none⟩) n1 c1, .slice (some ⟨g2, 0, none⟩) n2 c2], .int .i64 i] w fun e w' => e = .returned (.bool false) ∧ Below w.heap.size w w' := by
  have HB := Lib.hid ((Below.refl w.heap.size w).alloc (Nat.le_refl _) (Obj.cells #[.slice (some ⟨g1, 0, none⟩) n1 c1, .slice (some ⟨g2, 0, none⟩) n2 c2] 42))
  by_cases h0 : i < 0
  · clear h
    go_enter Try.func91, Try.ntmps91
    go_wp2
    go_ret
    exact ⟨rfl, HB.out⟩
  · have h1 : decide (i < (n1 : Int)) = false := decide_eq_false (by omega)
    have h2 : 0 ≤ i := by omega
    clear h h0
    go_enter Try.func91, Try.ntmps91
    go_wp2
    go_ret
    exact ⟨rfl, HB.out⟩

set_option maxRecDepth 100000 in
set_option maxHeartbeats 2000000 in
theorem specDem {g1 g2 n1 n2 c1 c2 : Nat} (a b c d : Int) (w : World) (hs1 : n1 ≤ 1048576) :
    Calls Try.prog 89 #[.agg #[.slice (some ⟨g1, 0, none⟩) n1 c1, .slice (some ⟨g2, 0, none⟩) n2 c2], .agg #[.int .i64 a, .int .i64 b, .int .i64 c, .int .i64 d]] w fun e w' => e = .returned (.bool (pb (demP ⟨a, b, c, d⟩ n1))) ∧ Below w.heap.size w w' := by
  have HB := Lib.hid (((Below.refl w.heap.size w).alloc (Nat.le_refl _) (Obj.cells #[.slice (some ⟨g1, 0, none⟩) n1 c1, .slice (some ⟨g2, 0, none⟩) n2 c2] 42)).alloc (by simp) (Obj.cells #[.int .i64 a, .int .i64 b, .int .i64 c, .int .i64 d] 93))
  by_cases p0 : 0 ≤ a ∧ a ≤ (n1 : Int) - 1
  case neg =>
    have HF : Hid (pb (demP ⟨a, b, c, d⟩ n1) = false) := Lib.hid (pb_false fun h => p0 h.1)
    have C0 := Lib.hid (fun W => in_no a 0 ((n1 : Int) - 1) W (by omega))
    clear p0
    go_enter Try.func89, Try.ntmps89
    go_wp2_with fail
    refine (C0.out _).mono ?_
    rintro e w' ⟨rfl, rfl⟩
    go_wp2
    go_ret
    exact ⟨retb HF.out.symm, HB.out⟩
  case pos =>
  have C0 := Lib.hid (fun W => in_yes a 0 ((n1 : Int) - 1) W p0.1 p0.2)
  by_cases p1 : 0 ≤ b ∧ b ≤ (n1 : Int) - 1
  case neg =>
    have HF : Hid (pb (demP ⟨a, b, c, d⟩ n1) = false) := Lib.hid (pb_false fun h => p1 h.2.1)
    have C1 := Lib.hid (fun W => in_no b 0 ((n1 : Int) - 1) W (by omega))
    clear p1
    go_enter Try.func89, Try.ntmps89
    go_wp2_with fail
    refine (C0.out _).mono ?_
    rintro e w' ⟨rfl, rfl⟩
    go_wp2_with fail
    refine (C1.out _).mono ?_
    rintro e w' ⟨rfl, rfl⟩
    go_wp2
    go_ret
    exact ⟨retb HF.out.symm, HB.out⟩
  case pos =>
  have C1 := Lib.hid (fun W => in_yes b 0 ((n1 : Int) - 1) W p1.1 p1.2)
  by_cases p2 : a ≠ b
  case neg =>
    have HF : Hid (pb (demP ⟨a, b, c, d⟩ n1) = false) := Lib.hid (pb_false fun h => p2 h.2.2.1)
    have p2 : a = b := by simpa using p2
    subst p2
    go_enter Try.func89, Try.ntmps89
    go_wp2_with fail
    refine (C0.out _).mono ?_
    rintro e w' ⟨rfl, rfl⟩
    go_wp2_with fail
    refine (C1.out _).mono ?_
    rintro e w' ⟨rfl, rfl⟩
    go_wp2
    go_ret
    exact ⟨retb HF.out.symm, HB.out⟩
  case pos =>
  have q1 : (a != b) = true := by simpa using p2
  have q2 : (a == b) = false := by simpa using p2
  by_cases p3 : 1 ≤ c ∧ c ≤ 1000
  case neg =>
    have HF : Hid (pb (demP ⟨a, b, c, d⟩ n1) = false) := Lib.hid (pb_false fun h => p3 h.2.2.2.1)
    have C3 := Lib.hid (fun W => in_no c 1 1000 W (by omega))
    clear p3
    go_enter Try.func89, Try.ntmps89
    go_wp2_with fail
    refine (C0.out _).mono ?_
    rintro e w' ⟨rfl, rfl⟩
    go_wp2_with fail
    refine (C1.out _).mono ?_
    rintro e w' ⟨rfl, rfl⟩
    go_wp2_with fail
    refine (C3.out _).mono ?_
    rintro e w' ⟨rfl, rfl⟩
    go_wp2
    go_ret
    exact ⟨retb HF.out.symm, HB.out⟩
  case pos =>
  have C3 := Lib.hid (fun W => in_yes c 1 1000 W p3.1 p3.2)
  by_cases p4 : 0 ≤ d ∧ d ≤ 2
  case neg =>
    have HF : Hid (pb (demP ⟨a, b, c, d⟩ n1) = false) := Lib.hid (pb_false fun h => p4 h.2.2.2.2)
    have C4 := Lib.hid (fun W => in_no d 0 2 W (by omega))
    clear p4
    go_enter Try.func89, Try.ntmps89
    go_wp2_with fail
    refine (C0.out _).mono ?_
    rintro e w' ⟨rfl, rfl⟩
    go_wp2_with fail
    refine (C1.out _).mono ?_
    rintro e w' ⟨rfl, rfl⟩
    go_wp2_with fail
    refine (C3.out _).mono ?_
    rintro e w' ⟨rfl, rfl⟩
    go_wp2_with fail
    refine (C4.out _).mono ?_
    rintro e w' ⟨rfl, rfl⟩
    go_wp2
    go_ret
    exact ⟨retb HF.out.symm, HB.out⟩
  case pos =>
  have C4 := Lib.hid (fun W => in_yes d 0 2 W p4.1 p4.2)
  have HT : Hid (pb (demP ⟨a, b, c, d⟩ n1) = true) := Lib.hid (pb_true ⟨p0, p1, p2, p3, p4⟩)
  clear p0 p1 p2 p3 p4
  go_enter Try.func89, Try.ntmps89
  go_wp2_with fail
  refine (C0.out _).mono ?_
  rintro e w' ⟨rfl, rfl⟩
  go_wp2_with fail
  refine (C1.out _).mono ?_
  rintro e w' ⟨rfl, rfl⟩
  go_wp2_with fail
  refine (C3.out _).mono ?_
  rintro e w' ⟨rfl, rfl⟩
  go_wp2_with fail
  refine (C4.out _).mono ?_
  rintro e w' ⟨rfl, rfl⟩
  go_wp2
  go_ret
  exact ⟨retb HT.out.symm, HB.out⟩

set_option maxRecDepth 100000 in
set_option maxHeartbeats 4000000 in
theorem specDems {g1 g2 n1 n2 c1 c2 : Nat} {ss : List ByteArray} {fs : List Q4} {w : World} (h : NetAt g1 g2 n1 n2 c1 c2 ss fs w) (g3 n3 c3 : Nat) (ds : List Q4) (hn3 : ds.length = n3) (hs3 : n3 ≤ 1048576) (hrd : Rd w w.heap.size (some ⟨g3, 0, none⟩) (ds.flatMap Q4.cells)) :
    Calls Try.prog 59 #[.agg #[.slice (some ⟨g1, 0, none⟩) n1 c1, .slice (some ⟨g2, 0, none⟩) n2 c2], .slice (some ⟨g3, 0, none⟩) n3 c3] w (BoolP (pb (demsP ss fs ds)) w) := by
  have hs1 := h.sm1
  have hl1 := h.ln1
  have HN := Lib.hid h; clear h
  have HN3 := Lib.hid hn3; clear hn3
  go_enter Try.func59, Try.ntmps59
  go_wp2
  obtain ⟨W0, hW0⟩ : ∃ W0, (w.alloc (Obj.cells #[.slice (some ⟨g1, 0, none⟩) n1 c1, .slice (some ⟨g2, 0, none⟩) n2 c2] 42)) = W0 := ⟨_, rfl⟩
  have hk0 : W0.cell? ⟨w.heap.size, 0, none⟩ = some (.slice (some ⟨g1, 0, none⟩) n1 c1) := by rw [← hW0]; simp [go_sem]
  have hk1 : W0.cell? ⟨w.heap.size, 1, none⟩ = some (.slice (some ⟨g2, 0, none⟩) n2 c2) := by rw [← hW0]; simp [go_sem]
  have hz0 : w.heap.size < W0.heap.size := by rw [← hW0]; simp
  have HB0 := Lib.hid ((Below.refl w.heap.size w).alloc (Nat.le_refl _) (Obj.cells #[.slice (some ⟨g1, 0, none⟩) n1 c1, .slice (some ⟨g2, 0, none⟩) n2 c2] 42))
  rw [hW0] at HB0 ⊢
  clear hW0
  have HN0 := Lib.hid (HN.out.moved HB0.out)
  have HD0 := Lib.hid (hrd.moved HB0.out)
  have HK0 := Lib.hid hk0; have HK1 := Lib.hid hk1
  clear hk0 hk1 hrd
  go_loopw [5] (fun i wr => ∃ k : Nat, k ≤ n3 ∧ k ≤ 13 ∧ i = .int .i64 k ∧ (∀ j (h : j < ds.length), j < k → demP ds[j] n1) ∧ Below W0.heap.size W0 wr) (fun i _ => n3 - (intOf i).toNat)
  case atStart => exact ⟨0, Nat.zero_le _, by omega, rfl, fun j _ h => absurd h (by omega), Below.refl _ _⟩
  case round =>
    obtain ⟨k, hk, hk13, rfl, hall, hb⟩ := hrel
    have HA := Lib.hid hall; clear hall
    have hc0 := HK0.out; have hc1 := HK1.out
    rw [← hb.cell (p := ⟨w.heap.size, 0, none⟩) hz0] at hc0
    rw [← hb.cell (p := ⟨w.heap.size, 1, none⟩) hz0] at hc1
    have hbw : w.heap.size < wr.heap.size := Nat.lt_of_lt_of_le hz0 hb.size
    by_cases hlt : k < n3
    · by_cases h12 : k ≤ 12
      · have h12' : (k : Int) ≤ 12 := by omega
        have hks : k < ds.length := by have := HN3.out; omega
        have hr := (HD0.out.over hb).q4c hks
        rw [Nat.zero_add] at hr
        obtain ⟨⟨a, b, c, d⟩, hq⟩ : ∃ q, ds[k]'hks = q := ⟨_, rfl⟩
        rw [hq] at hr
        obtain ⟨hg, f0, f1, f2, f3⟩ := hr
        simp only at f0 f1 f2 f3
        have hgw : g3 < wr.heap.size := Nat.lt_of_lt_of_le hg hb.size
        have hcd := fun W => specDem (g1 := g1) (g2 := g2) (n1 := n1) (n2 := n2) (c1 := c1) (c2 := c2) a b c d W hs1
        by_cases hp : demP ⟨a, b, c, d⟩ n1
        · rw [pb_true hp] at hcd
          have CD := Lib.hid hcd
          have HS : Hid (∀ j (h : j < ds.length), j < k + 1 → demP ds[j] n1) := Lib.hid (by
            intro j h hj
            by_cases hjk : j < k
            · exact HA.out j h hjk
            · obtain rfl : j = k := by omega
              rw [hq]; exact hp)
          clear hq hp hcd
          go_wp2
          obtain ⟨T, f, x0, hx0, hT, HST⟩ := above wr
          haveI : Nonempty T := ⟨x0⟩
          have r0 : ∀ x, (f x).cell? ⟨w.heap.size, 0, none⟩ = some (.slice (some ⟨g1, 0, none⟩) n1 c1) := fun x => ((hT x).cell (p := ⟨_, _, none⟩) hbw).trans hc0
          have r1 : ∀ x, (f x).cell? ⟨w.heap.size, 1, none⟩ = some (.slice (some ⟨g2, 0, none⟩) n2 c2) := fun x => ((hT x).cell (p := ⟨_, _, none⟩) hbw).trans hc1
          have r2 : ∀ x, (f x).cell? ⟨g3, k * 4, none⟩ = some (.int .i64 a) := fun x => ((hT x).cell (p := ⟨_, _, none⟩) hgw).trans f0
          have r3 : ∀ x, (f x).cell? ⟨g3, k * 4 + 1, none⟩ = some (.int .i64 b) := fun x => ((hT x).cell (p := ⟨_, _, none⟩) hgw).trans f1
          have r4 : ∀ x, (f x).cell? ⟨g3, k * 4 + 2, none⟩ = some (.int .i64 c) := fun x => ((hT x).cell (p := ⟨_, _, none⟩) hgw).trans f2
          have r5 : ∀ x, (f x).cell? ⟨g3, k * 4 + 3, none⟩ = some (.int .i64 d) := fun x => ((hT x).cell (p := ⟨_, _, none⟩) hgw).trans f3
          have HT := Lib.hid hT; have HX := Lib.hid hx0; clear hT hx0 hc0 hc1 f0 f1 f2 f3
          refine wp_region_class f (by kernel_rfl) (by kernel_rfl) x0 HX.out ?_
          repeat (go_big_quiet_step ((go_at_call 89; exact Calls.inClass HST (CD.out _))))
          refine wpQuiet_nil ?_
          rintro _ ⟨x, rfl⟩
          go_wp2
          go_roundw
          case rel => exact ⟨k + 1, by omega, by omega, by go_num, HS.out, hb.trans ((HT.out x).mono hb.size)⟩
          case measure => simp [intOf]; omega
        · rw [pb_false hp] at hcd
          have CD := Lib.hid hcd
          have HF : Hid (pb (demsP ss fs ds) = false) := Lib.hid (pb_false fun h => hp (by have := h.2.1 k hks; rw [hq, hl1] at this; exact this))
          clear hq hp hcd
          go_wp2
          obtain ⟨T, f, x0, hx0, hT, HST⟩ := above wr
          haveI : Nonempty T := ⟨x0⟩
          have r0 : ∀ x, (f x).cell? ⟨w.heap.size, 0, none⟩ = some (.slice (some ⟨g1, 0, none⟩) n1 c1) := fun x => ((hT x).cell (p := ⟨_, _, none⟩) hbw).trans hc0
          have r1 : ∀ x, (f x).cell? ⟨w.heap.size, 1, none⟩ = some (.slice (some ⟨g2, 0, none⟩) n2 c2) := fun x => ((hT x).cell (p := ⟨_, _, none⟩) hbw).trans hc1
          have r2 : ∀ x, (f x).cell? ⟨g3, k * 4, none⟩ = some (.int .i64 a) := fun x => ((hT x).cell (p := ⟨_, _, none⟩) hgw).trans f0
          have r3 : ∀ x, (f x).cell? ⟨g3, k * 4 + 1, none⟩ = some (.int .i64 b) := fun x => ((hT x).cell (p := ⟨_, _, none⟩) hgw).trans f1
          have r4 : ∀ x, (f x).cell? ⟨g3, k * 4 + 2, none⟩ = some (.int .i64 c) := fun x => ((hT x).cell (p := ⟨_, _, none⟩) hgw).trans f2
          have r5 : ∀ x, (f x).cell? ⟨g3, k * 4 + 3, none⟩ = some (.int .i64 d) := fun x => ((hT x).cell (p := ⟨_, _, none⟩) hgw).trans f3
          have HT := Lib.hid hT; have HX := Lib.hid hx0; clear hT hx0 hc0 hc1 f0 f1 f2 f3
          refine wp_region_class f (by kernel_rfl) (by kernel_rfl) x0 HX.out ?_
          repeat (go_big_quiet_step ((go_at_call 89; exact Calls.inClass HST (CD.out _))))
          refine wpQuiet_nil ?_
          rintro _ ⟨x, rfl⟩
          go_wp2
          go_ret
          exact boolP HF.out.symm ((HB0.out.trans (hb.mono HB0.out.size)).trans ((HT.out x).mono (by have := HB0.out.size; have := hb.size; omega)))
      · have HF : Hid (pb (demsP ss fs ds) = false) := Lib.hid (pb_false fun h => by have := h.1; have := HN3.out; omega)
        have q : 12 < (k : Int) := by omega
        have q2 : 12 < (n3 : Int) := by omega
        clear h12
        go_wp2
        go_ret
        exact boolP HF.out.symm (HB0.out.trans (hb.mono HB0.out.size))
    · have hkn : k = n3 := by omega
      subst hkn
      by_cases h12 : k ≤ 12
      · have q : (k : Int) ≤ 12 := by omega
        have HE : Hid (pb (netP ss fs) = pb (demsP ss fs ds)) := Lib.hid (by
          by_cases hp : netP ss fs
          · rw [pb_true hp, pb_true (show demsP ss fs ds from ⟨by have := HN3.out; omega, fun i hi => by rw [hl1]; exact HA.out i hi (by have := HN3.out; omega), hp⟩)]
          · rw [pb_false hp, pb_false (show ¬ demsP ss fs ds from fun h => hp h.2.2)])
        have HC := Lib.hid (specNet_ (HN0.out.moved hb))
        clear hlt h12
        go_wp2_with fail
        refine HC.out.mono ?_
        rintro e w1 ⟨rfl, hb1⟩
        rw [HE.out]
        have HB1 := Lib.hid ((HB0.out.trans (hb.mono HB0.out.size)).trans (hb1.mono (by have := HB0.out.size; have := hb.size; omega)))
        clear hb1
        obtain ⟨r, hr⟩ : ∃ r, pb (demsP ss fs ds) = r := ⟨_, rfl⟩
        rw [hr]
        have HRR := Lib.hid hr
        clear hr
        go_wp2
        go_ret
        exact boolP HRR.out.symm HB1.out
      · have HF : Hid (pb (demsP ss fs ds) = false) := Lib.hid (pb_false fun h => by have := h.1; have := HN3.out; omega)
        have q : 12 < (k : Int) := by omega
        clear hlt h12
        go_wp2
        go_ret
        exact boolP HF.out.symm (HB0.out.trans (hb.mono HB0.out.size))

end Go.Proofs.Ytlankoameeacpaa
