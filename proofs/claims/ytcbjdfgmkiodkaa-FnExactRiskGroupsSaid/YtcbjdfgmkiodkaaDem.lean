/- Contracts: impl.IsValidDemands and spec.IsValidDemands answer the same plain word. No condition but those typed. -/
import Derived.Test.YtcbjdfgmkiodkaaNetA
import Derived.Test.YtcbjdfgmkiodkaaDemS
import Derived.Test.YtcbjdfgmkiodkaaFmtI
namespace Go.Proofs.Ytcbjdfgmkiodkaa
open Go.ChangeShapes Go.WideShapes Go.ChangeAt Go.RowKit

def demP (q : Q4) (n : Nat) : Prop := (0 ≤ q.a ∧ q.a ≤ (n : Int) - 1) ∧ (0 ≤ q.b ∧ q.b ≤ (n : Int) - 1) ∧ q.a ≠ q.b ∧ (1 ≤ q.c ∧ q.c ≤ 1000) ∧ (0 ≤ q.d ∧ q.d ≤ 2)
def demsP (ss : List ByteArray) (fs ds : List Q4) : Prop := ds.length ≤ 12 ∧ (∀ i (h : i < ds.length), demP ds[i] ss.length) ∧ netP ss fs

theorem isNode_yes {g1 g2 n1 n2 c1 c2 : Nat} (i : Int) (w : World) (h0 : 0 ≤ i) (h1 : i < n1) :
    Calls Try.prog 223 #[.agg #[.slice (some ⟨g1, 0, none⟩) n1 c1, .slice (some ⟨g2, 0, none⟩) n2 c2], .int .i64 i] w fun e w' => e = .returned (.bool true) ∧ Below w.heap.size w w' := by
  have HB := Lib.hid ((Below.refl w.heap.size w).alloc (Nat.le_refl _) (Obj.cells #[.slice (some ⟨g1, 0, none⟩) n1 c1, .slice (some ⟨g2, 0, none⟩) n2 c2] 32))
  go_enter Try.func223, Try.ntmps223
  go_wp2
  go_ret
  exact ⟨rfl, HB.out⟩
theorem isNode_no {g1 g2 n1 n2 c1 c2 : Nat} (i : Int) (w : World) (h : i < 0 ∨ n1 ≤ i) :
    Calls Try.prog 223 #[.agg #[.slice (some ⟨g1, 0, none⟩) n1 c1, .slice (some ⟨g2, 0, none⟩) n2 c2], .int .i64 i] w fun e w' => e = .returned (.bool false) ∧ Below w.heap.size w w' := by
  have HB := Lib.hid ((Below.refl w.heap.size w).alloc (Nat.le_refl _) (Obj.cells #[.slice (some ⟨g1, 0, none⟩) n1 c1, .slice (some ⟨g2, 0, none⟩) n2 c2] 32))
  by_cases h0 : i < 0
  · clear h
    go_enter Try.func223, Try.ntmps223
    go_wp2
    go_ret
    exact ⟨rfl, HB.out⟩
  · have h1 : decide (i < (n1 : Int)) = false := decide_eq_false (by omega)
    have h2 : 0 ≤ i := by omega
    clear h h0
    go_enter Try.func223, Try.ntmps223
    go_wp2
    go_ret
    exact ⟨rfl, HB.out⟩

set_option maxRecDepth 100000 in
set_option maxHeartbeats 2000000 in
theorem specDem {g1 g2 n1 n2 c1 c2 : Nat} (a b c d : Int) (w : World) (hs1 : n1 ≤ 1048576) :
    Calls Try.prog 244 #[.agg #[.slice (some ⟨g1, 0, none⟩) n1 c1, .slice (some ⟨g2, 0, none⟩) n2 c2], .agg #[.int .i64 a, .int .i64 b, .int .i64 c, .int .i64 d]] w fun e w' => e = .returned (.bool (pb (demP ⟨a, b, c, d⟩ n1))) ∧ Below w.heap.size w w' := by
  have HB := Lib.hid (((Below.refl w.heap.size w).alloc (Nat.le_refl _) (Obj.cells #[.slice (some ⟨g1, 0, none⟩) n1 c1, .slice (some ⟨g2, 0, none⟩) n2 c2] 32)).alloc (by simp) (Obj.cells #[.int .i64 a, .int .i64 b, .int .i64 c, .int .i64 d] 220))
  by_cases p0 : 0 ≤ a ∧ a ≤ (n1 : Int) - 1
  case neg =>
    have HF : Hid (pb (demP ⟨a, b, c, d⟩ n1) = false) := Lib.hid (pb_false fun h => p0 h.1)
    have C0 := Lib.hid (fun W => in_no a 0 ((n1 : Int) - 1) W (by omega))
    clear p0
    go_enter Try.func244, Try.ntmps244
    go_wp2_with fail
    refine (C0.out _).mono ?_
    rintro e w' ⟨rfl, rfl⟩
    go_wp2
    go_ret
    exact ⟨retb HF.out.symm, HB.out⟩
  case pos =>
  have C0 := Lib.hid (fun W => in_yes a 0 ((n1 : Int) - 1) W p0.1 p0.2)
  by_cases p1 : 0 ≤ b ∧ b ≤ (n1 : Int) - 1
  case neg =>
    have HF : Hid (pb (demP ⟨a, b, c, d⟩ n1) = false) := Lib.hid (pb_false fun h => p1 h.2.1)
    have C1 := Lib.hid (fun W => in_no b 0 ((n1 : Int) - 1) W (by omega))
    clear p1
    go_enter Try.func244, Try.ntmps244
    go_wp2_with fail
    refine (C0.out _).mono ?_
    rintro e w' ⟨rfl, rfl⟩
    go_wp2_with fail
    refine (C1.out _).mono ?_
    rintro e w' ⟨rfl, rfl⟩
    go_wp2
    go_ret
    exact ⟨retb HF.out.symm, HB.out⟩
  case pos =>
  have C1 := Lib.hid (fun W => in_yes b 0 ((n1 : Int) - 1) W p1.1 p1.2)
  by_cases p2 : a ≠ b
  case neg =>
    have HF : Hid (pb (demP ⟨a, b, c, d⟩ n1) = false) := Lib.hid (pb_false fun h => p2 h.2.2.1)
    have p2 : a = b := by simpa using p2
    subst p2
    go_enter Try.func244, Try.ntmps244
    go_wp2_with fail
    refine (C0.out _).mono ?_
    rintro e w' ⟨rfl, rfl⟩
    go_wp2_with fail
    refine (C1.out _).mono ?_
    rintro e w' ⟨rfl, rfl⟩
    go_wp2
    go_ret
    exact ⟨retb HF.out.symm, HB.out⟩
  case pos =>
  have q1 : (a != b) = true := by simpa using p2
  have q2 : (a == b) = false := by simpa using p2
  by_cases p3 : 1 ≤ c ∧ c ≤ 1000
  case neg =>
    have HF : Hid (pb (demP ⟨a, b, c, d⟩ n1) = false) := Lib.hid (pb_false fun h => p3 h.2.2.2.1)
    have C3 := Lib.hid (fun W => in_no c 1 1000 W (by omega))
    clear p3
    go_enter Try.func244, Try.ntmps244
    go_wp2_with fail
    refine (C0.out _).mono ?_
    rintro e w' ⟨rfl, rfl⟩
    go_wp2_with fail
    refine (C1.out _).mono ?_
    rintro e w' ⟨rfl, rfl⟩
    go_wp2_with fail
    refine (C3.out _).mono ?_
    rintro e w' ⟨rfl, rfl⟩
    go_wp2
    go_ret
    exact ⟨retb HF.out.symm, HB.out⟩
  case pos =>
  have C3 := Lib.hid (fun W => in_yes c 1 1000 W p3.1 p3.2)
  by_cases p4 : 0 ≤ d ∧ d ≤ 2
  case neg =>
    have HF : Hid (pb (demP ⟨a, b, c, d⟩ n1) = false) := Lib.hid (pb_false fun h => p4 h.2.2.2.2)
    have C4 := Lib.hid (fun W => in_no d 0 2 W (by omega))
    clear p4
    go_enter Try.func244, Try.ntmps244
    go_wp2_with fail
    refine (C0.out _).mono ?_
    rintro e w' ⟨rfl, rfl⟩
    go_wp2_with fail
    refine (C1.out _).mono ?_
    rintro e w' ⟨rfl, rfl⟩
    go_wp2_with fail
    refine (C3.out _).mono ?_
    rintro e w' ⟨rfl, rfl⟩
    go_wp2_with fail
    refine (C4.out _).mono ?_
    rintro e w' ⟨rfl, rfl⟩
    go_wp2
    go_ret
    exact ⟨retb HF.out.symm, HB.out⟩
  case pos =>
  have C4 := Lib.hid (fun W => in_yes d 0 2 W p4.1 p4.2)
  have HT : Hid (pb (demP ⟨a, b, c, d⟩ n1) = true) := Lib.hid (pb_true ⟨p0, p1, p2, p3, p4⟩)
  clear p0 p1 p2 p3 p4
  go_enter Try.func244, Try.ntmps244
  go_wp2_with fail
  refine (C0.out _).mono ?_
  rintro e w' ⟨rfl, rfl⟩
  go_wp2_with fail
  refine (C1.out _).mono ?_
  rintro e w' ⟨rfl, rfl⟩
  go_wp2_with fail
  refine (C3.out _).mono ?_
  rintro e w' ⟨rfl, rfl⟩
  go_wp2_with fail
  refine (C4.out _).mono ?_
  rintro e w' ⟨rfl, rfl⟩
  go_wp2
  go_ret
  exact ⟨retb HT.out.symm, HB.out⟩

set_option maxRecDepth 100000 in
set_option maxHeartbeats 4000000 in
theorem specDems {g1 g2 n1 n2 c1 c2 : Nat} {ss : List ByteArray} {fs : List Q4} {w : World} (h : NetAt g1 g2 n1 n2 c1 c2 ss fs w) (g3 n3 c3 : Nat) (ds : List Q4) (hn3 : ds.length = n3) (hs3 : n3 ≤ 1048576) (hrd : Rd w w.heap.size (some ⟨g3, 0, none⟩) (ds.flatMap Q4.cells)) :
    Calls Try.prog 198 #[.agg #[.slice (some ⟨g1, 0, none⟩) n1 c1, .slice (some ⟨g2, 0, none⟩) n2 c2], .slice (some ⟨g3, 0, none⟩) n3 c3] w (BoolP (pb (demsP ss fs ds)) w) := by
  have hs1 := h.sm1
  have hl1 := h.ln1
  have HN := Lib.hid h; clear h
  have HN3 := Lib.hid hn3; clear hn3
  go_enter Try.func198, Try.ntmps198
  go_wp2
  obtain ⟨W0, hW0⟩ : ∃ W0, (w.alloc (Obj.cells #[.slice (some ⟨g1, 0, none⟩) n1 c1, .slice (some ⟨g2, 0, none⟩) n2 c2] 32)) = W0 := ⟨_, rfl⟩
  have hk0 : W0.cell? ⟨w.heap.size, 0, none⟩ = some (.slice (some ⟨g1, 0, none⟩) n1 c1) := by rw [← hW0]; simp [go_sem]
  have hk1 : W0.cell? ⟨w.heap.size, 1, none⟩ = some (.slice (some ⟨g2, 0, none⟩) n2 c2) := by rw [← hW0]; simp [go_sem]
  have hz0 : w.heap.size < W0.heap.size := by rw [← hW0]; simp
  have HB0 := Lib.hid ((Below.refl w.heap.size w).alloc (Nat.le_refl _) (Obj.cells #[.slice (some ⟨g1, 0, none⟩) n1 c1, .slice (some ⟨g2, 0, none⟩) n2 c2] 32))
  rw [hW0] at HB0 ⊢
  clear hW0
  have HN0 := Lib.hid (HN.out.moved HB0.out)
  have HD0 := Lib.hid (hrd.moved HB0.out)
  have HK0 := Lib.hid hk0; have HK1 := Lib.hid hk1
  clear hk0 hk1 hrd
  go_loopw [5] (fun i wr => ∃ k : Nat, k ≤ n3 ∧ k ≤ 13 ∧ i = .int .i64 k ∧ (∀ j (h : j < ds.length), j < k → demP ds[j] n1) ∧ Below W0.heap.size W0 wr) (fun i _ => n3 - (intOf i).toNat)
  case atStart => exact ⟨0, Nat.zero_le _, by omega, rfl, fun j _ h => absurd h (by omega), Below.refl _ _⟩
  case round =>
    obtain ⟨k, hk, hk13, rfl, hall, hb⟩ := hrel
    have HA := Lib.hid hall; clear hall
    have hc0 := HK0.out; have hc1 := HK1.out
    rw [← hb.cell (p := ⟨w.heap.size, 0, none⟩) hz0] at hc0
    rw [← hb.cell (p := ⟨w.heap.size, 1, none⟩) hz0] at hc1
    have hbw : w.heap.size < wr.heap.size := Nat.lt_of_lt_of_le hz0 hb.size
    by_cases hlt : k < n3
    · by_cases h12 : k ≤ 12
      · have h12' : (k : Int) ≤ 12 := by omega
        have hks : k < ds.length := by have := HN3.out; omega
        have hr := (HD0.out.over hb).q4c hks
        rw [Nat.zero_add] at hr
        obtain ⟨⟨a, b, c, d⟩, hq⟩ : ∃ q, ds[k]'hks = q := ⟨_, rfl⟩
        rw [hq] at hr
        obtain ⟨hg, f0, f1, f2, f3⟩ := hr
        simp only at f0 f1 f2 f3
        have hgw : g3 < wr.heap.size := Nat.lt_of_lt_of_le hg hb.size
        have hcd := fun W => specDem (g1 := g1) (g2 := g2) (n1 := n1) (n2 := n2) (c1 := c1) (c2 := c2) a b c d W hs1
        by_cases hp : demP ⟨a, b, c, d⟩ n1
        · rw [pb_true hp] at hcd
          have CD := Lib.hid hcd
          have HS : Hid (∀ j (h : j < ds.length), j < k + 1 → demP ds[j] n1) := Lib.hid (by
            intro j h hj
            by_cases hjk : j < k
            · exact HA.out j h hjk
            · obtain rfl : j = k := by omega
              rw [hq]; exact hp)
          clear hq hp hcd
          go_wp2
          obtain ⟨T, f, x0, hx0, hT, HST⟩ := above wr
          haveI : Nonempty T := ⟨x0⟩
          have r0 : ∀ x, (f x).cell? ⟨w.heap.size, 0, none⟩ = some (.slice (some ⟨g1, 0, none⟩) n1 c1) := fun x => ((hT x).cell (p := ⟨_, _, none⟩) hbw).trans hc0
          have r1 : ∀ x, (f x).cell? ⟨w.heap.size, 1, none⟩ = some (.slice (some ⟨g2, 0, none⟩) n2 c2) := fun x => ((hT x).cell (p := ⟨_, _, none⟩) hbw).trans hc1
          have r2 : ∀ x, (f x).cell? ⟨g3, k * 4, none⟩ = some (.int .i64 a) := fun x => ((hT x).cell (p := ⟨_, _, none⟩) hgw).trans f0
          have r3 : ∀ x, (f x).cell? ⟨g3, k * 4 + 1, none⟩ = some (.int .i64 b) := fun x => ((hT x).cell (p := ⟨_, _, none⟩) hgw).trans f1
          have r4 : ∀ x, (f x).cell? ⟨g3, k * 4 + 2, none⟩ = some (.int .i64 c) := fun x => ((hT x).cell (p := ⟨_, _, none⟩) hgw).trans f2
          have r5 : ∀ x, (f x).cell? ⟨g3, k * 4 + 3, none⟩ = some (.int .i64 d) := fun x => ((hT x).cell (p := ⟨_, _, none⟩) hgw).trans f3
          have HT := Lib.hid hT; have HX := Lib.hid hx0; clear hT hx0 hc0 hc1 f0 f1 f2 f3
          refine wp_region_class f (by kernel_rfl) (by kernel_rfl) x0 HX.out ?_
          repeat (go_big_quiet_step ((go_at_call 244; exact Calls.inClass HST (CD.out _))))
          refine wpQuiet_nil ?_
          rintro _ ⟨x, rfl⟩
          go_wp2
          go_roundw
          case rel => exact ⟨k + 1, by omega, by omega, by go_num, HS.out, hb.trans ((HT.out x).mono hb.size)⟩
          case measure => simp [intOf]; omega
        · rw [pb_false hp] at hcd
          have CD := Lib.hid hcd
          have HF : Hid (pb (demsP ss fs ds) = false) := Lib.hid (pb_false fun h => hp (by have := h.2.1 k hks; rw [hq, hl1] at this; exact this))
          clear hq hp hcd
          go_wp2
          obtain ⟨T, f, x0, hx0, hT, HST⟩ := above wr
          haveI : Nonempty T := ⟨x0⟩
          have r0 : ∀ x, (f x).cell? ⟨w.heap.size, 0, none⟩ = some (.slice (some ⟨g1, 0, none⟩) n1 c1) := fun x => ((hT x).cell (p := ⟨_, _, none⟩) hbw).trans hc0
          have r1 : ∀ x, (f x).cell? ⟨w.heap.size, 1, none⟩ = some (.slice (some ⟨g2, 0, none⟩) n2 c2) := fun x => ((hT x).cell (p := ⟨_, _, none⟩) hbw).trans hc1
          have r2 : ∀ x, (f x).cell? ⟨g3, k * 4, none⟩ = some (.int .i64 a) := fun x => ((hT x).cell (p := ⟨_, _, none⟩) hgw).trans f0
          have r3 : ∀ x, (f x).cell? ⟨g3, k * 4 + 1, none⟩ = some (.int .i64 b) := fun x => ((hT x).cell (p := ⟨_, _, none⟩) hgw).trans f1
          have r4 : ∀ x, (f x).cell? ⟨g3, k * 4 + 2, none⟩ = some (.int .i64 c) := fun x => ((hT x).cell (p := ⟨_, _, none⟩) hgw).trans f2
          have r5 : ∀ x, (f x).cell? ⟨g3, k * 4 + 3, none⟩ = some (.int .i64 d) := fun x => ((hT x).cell (p := ⟨_, _, none⟩) hgw).trans f3
          have HT := Lib.hid hT; have HX := Lib.hid hx0; clear hT hx0 hc0 hc1 f0 f1 f2 f3
          refine wp_region_class f (by kernel_rfl) (by kernel_rfl) x0 HX.out ?_
          repeat (go_big_quiet_step ((go_at_call 244; exact Calls.inClass HST (CD.out _))))
          refine wpQuiet_nil ?_
          rintro _ ⟨x, rfl⟩
          go_wp2
          go_ret
          exact boolP HF.out.symm ((HB0.out.trans (hb.mono HB0.out.size)).trans ((HT.out x).mono (by have := HB0.out.size; have := hb.size; omega)))
      · have HF : Hid (pb (demsP ss fs ds) = false) := Lib.hid (pb_false fun h => by have := h.1; have := HN3.out; omega)
        have q : 12 < (k : Int) := by omega
        have q2 : 12 < (n3 : Int) := by omega
        clear h12
        go_wp2
        go_ret
        exact boolP HF.out.symm (HB0.out.trans (hb.mono HB0.out.size))
    · have hkn : k = n3 := by omega
      subst hkn
      by_cases h12 : k ≤ 12
      · have q : (k : Int) ≤ 12 := by omega
        have HE : Hid (pb (netP ss fs) = pb (demsP ss fs ds)) := Lib.hid (by
          by_cases hp : netP ss fs
          · rw [pb_true hp, pb_true (show demsP ss fs ds from ⟨by have := HN3.out; omega, fun i hi => by rw [hl1]; exact HA.out i hi (by have := HN3.out; omega), hp⟩)]
          · rw [pb_false hp, pb_false (show ¬ demsP ss fs ds from fun h => hp h.2.2)])
        have HC := Lib.hid (specNet_ (HN0.out.moved hb))
        clear hlt h12
        go_wp2_with fail
        refine HC.out.mono ?_
        rintro e w1 ⟨rfl, hb1⟩
        rw [HE.out]
        have HB1 := Lib.hid ((HB0.out.trans (hb.mono HB0.out.size)).trans (hb1.mono (by have := HB0.out.size; have := hb.size; omega)))
        clear hb1
        obtain ⟨r, hr⟩ : ∃ r, pb (demsP ss fs ds) = r := ⟨_, rfl⟩
        rw [hr]
        have HRR := Lib.hid hr
        clear hr
        go_wp2
        go_ret
        exact boolP HRR.out.symm HB1.out
      · have HF : Hid (pb (demsP ss fs ds) = false) := Lib.hid (pb_false fun h => by have := h.1; have := HN3.out; omega)
        have q : 12 < (k : Int) := by omega
        clear hlt h12
        go_wp2
        go_ret
        exact boolP HF.out.symm (HB0.out.trans (hb.mono HB0.out.size))

set_option maxRecDepth 100000 in
set_option maxHeartbeats 4000000 in
theorem implDems {g1 g2 n1 n2 c1 c2 : Nat} {ss : List ByteArray} {fs : List Q4} {w : World} (h : NetAt g1 g2 n1 n2 c1 c2 ss fs w) (g3 n3 c3 : Nat) (ds : List Q4) (hn3 : ds.length = n3) (hs3 : n3 ≤ 1048576) (hrd : Rd w w.heap.size (some ⟨g3, 0, none⟩) (ds.flatMap Q4.cells)) :
    Calls Try.prog 195 #[.agg #[.slice (some ⟨g1, 0, none⟩) n1 c1, .slice (some ⟨g2, 0, none⟩) n2 c2], .slice (some ⟨g3, 0, none⟩) n3 c3] w (BoolP (pb (demsP ss fs ds)) w) := by
  have hs1 := h.sm1
  have hl1 := h.ln1
  have HN := Lib.hid h; clear h
  have HN3 := Lib.hid hn3; clear hn3
  have HRD := Lib.hid hrd; clear hrd
  by_cases hp : netP ss fs
  case neg =>
    have HB : Hid (pb (netP ss fs) = false) := Lib.hid (pb_false hp)
    have HF : Hid (pb (demsP ss fs ds) = false) := Lib.hid (pb_false fun h => hp h.2.2)
    clear hp
    go_enter Try.func195, Try.ntmps195
    go_wp2_with fail
    obtain ⟨W0, hW0⟩ : ∃ W0, (w.alloc (Obj.cells #[.slice (some ⟨g1, 0, none⟩) n1 c1, .slice (some ⟨g2, 0, none⟩) n2 c2] 32)) = W0 := ⟨_, rfl⟩
    have hk0 : W0.cell? ⟨w.heap.size, 0, none⟩ = some (.slice (some ⟨g1, 0, none⟩) n1 c1) := by rw [← hW0]; simp [go_sem]
    have hk1 : W0.cell? ⟨w.heap.size, 1, none⟩ = some (.slice (some ⟨g2, 0, none⟩) n2 c2) := by rw [← hW0]; simp [go_sem]
    have hz0 : w.heap.size < W0.heap.size := by rw [← hW0]; simp
    have HB0 := Lib.hid ((Below.refl w.heap.size w).alloc (Nat.le_refl _) (Obj.cells #[.slice (some ⟨g1, 0, none⟩) n1 c1, .slice (some ⟨g2, 0, none⟩) n2 c2] 32))
    rw [hW0] at HB0 ⊢
    clear hW0
    have HN0 := Lib.hid (HN.out.moved HB0.out)
    refine (implNet_ HN0.out).mono ?_
    rintro e w1 ⟨rfl, hb1⟩
    rw [HB.out]
    have k0 := (hb1.cell (p := ⟨w.heap.size, 0, none⟩) hz0).trans hk0
    have k1 := (hb1.cell (p := ⟨w.heap.size, 1, none⟩) hz0).trans hk1
    have hbx : w.heap.size < w1.heap.size := Nat.lt_of_lt_of_le hz0 hb1.size
    have HN1 := Lib.hid (HN0.out.moved hb1)
    have hB1 := Lib.hid (HB0.out.trans (hb1.mono HB0.out.size))
    clear hk0 hk1 hz0 hb1 HN0 HB0
    go_wp2
    go_ret
    exact boolP HF.out.symm hB1.out
  case pos =>
  have HB : Hid (pb (netP ss fs) = true) := Lib.hid (pb_true hp)
  have HP := Lib.hid hp; clear hp
  by_cases h12 : n3 ≤ 12
  case neg =>
    have HF : Hid (pb (demsP ss fs ds) = false) := Lib.hid (pb_false fun h => by have := h.1; have := HN3.out; omega)
    have q : 12 < (n3 : Int) := by omega
    clear h12
    go_enter Try.func195, Try.ntmps195
    go_wp2_with fail
    obtain ⟨W0, hW0⟩ : ∃ W0, (w.alloc (Obj.cells #[.slice (some ⟨g1, 0, none⟩) n1 c1, .slice (some ⟨g2, 0, none⟩) n2 c2] 32)) = W0 := ⟨_, rfl⟩
    have hk0 : W0.cell? ⟨w.heap.size, 0, none⟩ = some (.slice (some ⟨g1, 0, none⟩) n1 c1) := by rw [← hW0]; simp [go_sem]
    have hk1 : W0.cell? ⟨w.heap.size, 1, none⟩ = some (.slice (some ⟨g2, 0, none⟩) n2 c2) := by rw [← hW0]; simp [go_sem]
    have hz0 : w.heap.size < W0.heap.size := by rw [← hW0]; simp
    have HB0 := Lib.hid ((Below.refl w.heap.size w).alloc (Nat.le_refl _) (Obj.cells #[.slice (some ⟨g1, 0, none⟩) n1 c1, .slice (some ⟨g2, 0, none⟩) n2 c2] 32))
    rw [hW0] at HB0 ⊢
    clear hW0
    have HN0 := Lib.hid (HN.out.moved HB0.out)
    refine (implNet_ HN0.out).mono ?_
    rintro e w1 ⟨rfl, hb1⟩
    rw [HB.out]
    have k0 := (hb1.cell (p := ⟨w.heap.size, 0, none⟩) hz0).trans hk0
    have k1 := (hb1.cell (p := ⟨w.heap.size, 1, none⟩) hz0).trans hk1
    have hbx : w.heap.size < w1.heap.size := Nat.lt_of_lt_of_le hz0 hb1.size
    have HN1 := Lib.hid (HN0.out.moved hb1)
    have hB1 := Lib.hid (HB0.out.trans (hb1.mono HB0.out.size))
    clear hk0 hk1 hz0 hb1 HN0 HB0
    go_wp2
    go_ret
    exact boolP HF.out.symm hB1.out
  case pos =>
  have q12 : (n3 : Int) ≤ 12 := by omega
  go_enter Try.func195, Try.ntmps195
  go_wp2_with fail
  obtain ⟨W0, hW0⟩ : ∃ W0, (w.alloc (Obj.cells #[.slice (some ⟨g1, 0, none⟩) n1 c1, .slice (some ⟨g2, 0, none⟩) n2 c2] 32)) = W0 := ⟨_, rfl⟩
  have hk0 : W0.cell? ⟨w.heap.size, 0, none⟩ = some (.slice (some ⟨g1, 0, none⟩) n1 c1) := by rw [← hW0]; simp [go_sem]
  have hk1 : W0.cell? ⟨w.heap.size, 1, none⟩ = some (.slice (some ⟨g2, 0, none⟩) n2 c2) := by rw [← hW0]; simp [go_sem]
  have hz0 : w.heap.size < W0.heap.size := by rw [← hW0]; simp
  have HB0 := Lib.hid ((Below.refl w.heap.size w).alloc (Nat.le_refl _) (Obj.cells #[.slice (some ⟨g1, 0, none⟩) n1 c1, .slice (some ⟨g2, 0, none⟩) n2 c2] 32))
  rw [hW0] at HB0 ⊢
  clear hW0
  have HN0 := Lib.hid (HN.out.moved HB0.out)
  refine (implNet_ HN0.out).mono ?_
  rintro e w1 ⟨rfl, hb1⟩
  rw [HB.out]
  have k0 := (hb1.cell (p := ⟨w.heap.size, 0, none⟩) hz0).trans hk0
  have k1 := (hb1.cell (p := ⟨w.heap.size, 1, none⟩) hz0).trans hk1
  have hbx : w.heap.size < w1.heap.size := Nat.lt_of_lt_of_le hz0 hb1.size
  have HN1 := Lib.hid (HN0.out.moved hb1)
  have hB1 := Lib.hid (HB0.out.trans (hb1.mono HB0.out.size))
  clear hk0 hk1 hz0 hb1 HN0 HB0
  go_wp2
  have HK0 := Lib.hid k0; have HK1 := Lib.hid k1
  have HD1 := Lib.hid (HRD.out.moved hB1.out)
  clear k0 k1
  go_loopw [17] (fun i wr => ∃ k : Nat, k ≤ n3 ∧ i = .int .i64 k ∧ (∀ j (h : j < ds.length), j < k → demP ds[j] n1) ∧ Below w1.heap.size w1 wr) (fun i _ => n3 - (intOf i).toNat)
  case atStart => exact ⟨0, Nat.zero_le _, rfl, fun j _ h => absurd h (by omega), Below.refl _ _⟩
  case round =>
    obtain ⟨k, hk, rfl, hall, hb⟩ := hrel
    have HA := Lib.hid hall; clear hall
    by_cases hlt : k < n3
    case neg =>
      have hkn : k = n3 := by omega
      have HTR : Hid (pb (demsP ss fs ds) = true) := Lib.hid (pb_true ⟨by have := HN3.out; omega, fun i hi => by rw [hl1]; exact HA.out i hi (by have := HN3.out; omega), HP.out⟩)
      subst hkn
      clear hlt
      go_wp2
      go_ret
      exact boolP HTR.out.symm (hB1.out.trans (hb.mono hB1.out.size))
    case pos =>
    have hks : k < ds.length := by have := HN3.out; omega
    have hr := (HD1.out.over hb).q4c hks
    rw [Nat.zero_add] at hr
    obtain ⟨⟨a, b, c, d⟩, hq⟩ : ∃ q, ds[k]'hks = q := ⟨_, rfl⟩
    rw [hq] at hr
    obtain ⟨hg, f0, f1, f2, f3⟩ := hr
    simp only at f0 f1 f2 f3
    have HNO : Hid (¬ demP ⟨a, b, c, d⟩ n1 → pb (demsP ss fs ds) = false) := Lib.hid fun hp => pb_false fun h => hp (by have := h.2.1 k hks; rw [hq, hl1] at this; exact this)
    have HS : Hid (demP ⟨a, b, c, d⟩ n1 → ∀ j (h : j < ds.length), j < k + 1 → demP ds[j] n1) := Lib.hid (by
      intro hp j h hj
      by_cases hjk : j < k
      · exact HA.out j h hjk
      · obtain rfl : j = k := by omega
        rw [hq]; exact hp)
    clear hq
    obtain ⟨W1, hW1⟩ : ∃ W1, (wr.alloc (Obj.cells #[.int .i64 a, .int .i64 b, .int .i64 c, .int .i64 d] 220)) = W1 := ⟨_, rfl⟩
    have hb1 : Below w1.heap.size w1 W1 := by rw [← hW1]; exact hb.alloc hb.size _
    have hlast : wr.heap.size < W1.heap.size := by rw [← hW1]; simp
    have e0 : W1.cell? ⟨wr.heap.size, 0, none⟩ = some (.int .i64 a) := by rw [← hW1]; simp [go_sem]
    have e1 : W1.cell? ⟨wr.heap.size, 1, none⟩ = some (.int .i64 b) := by rw [← hW1]; simp [go_sem]
    have e2 : W1.cell? ⟨wr.heap.size, 2, none⟩ = some (.int .i64 c) := by rw [← hW1]; simp [go_sem]
    have e3 : W1.cell? ⟨wr.heap.size, 3, none⟩ = some (.int .i64 d) := by rw [← hW1]; simp [go_sem]
    have d0 := (hb1.cell (p := ⟨w.heap.size, 0, none⟩) hbx).trans HK0.out
    have d1 := (hb1.cell (p := ⟨w.heap.size, 1, none⟩) hbx).trans HK1.out
    have HW1 := Lib.hid hW1
    have HB1 := Lib.hid hb1
    clear hW1 hb1
    have bW : w.heap.size < W1.heap.size := Nat.lt_of_lt_of_le hbx HB1.out.size
    have hc0 := (hb.cell (p := ⟨w.heap.size, 0, none⟩) hbx).trans HK0.out
    have hc1 := (hb.cell (p := ⟨w.heap.size, 1, none⟩) hbx).trans HK1.out
    have hbw : w.heap.size < wr.heap.size := Nat.lt_of_lt_of_le hbx hb.size
    by_cases p0 : 0 ≤ a ∧ a < n1
    case neg =>
      have HF := Lib.hid (HNO.out fun h => p0 (by have := h.1; simp only at this; omega))
      have CN1 := Lib.hid (fun W => isNode_no (g1 := g1) (g2 := g2) (n1 := n1) (n2 := n2) (c1 := c1) (c2 := c2) a W (by omega))
      clear p0
      go_wp2_with fail
      rw [HW1.out]
      clear hc0 hc1 hbw
      refine (CN1.out _).mono ?_
      rintro e v1 ⟨rfl, hv1⟩
      have d01 := (hv1.cell (p := ⟨w.heap.size, 0, none⟩) bW).trans d0
      have d11 := (hv1.cell (p := ⟨w.heap.size, 1, none⟩) bW).trans d1
      have e01 := (hv1.cell (p := ⟨wr.heap.size, 0, none⟩) hlast).trans e0
      have e11 := (hv1.cell (p := ⟨wr.heap.size, 1, none⟩) hlast).trans e1
      have e21 := (hv1.cell (p := ⟨wr.heap.size, 2, none⟩) hlast).trans e2
      have e31 := (hv1.cell (p := ⟨wr.heap.size, 3, none⟩) hlast).trans e3
      have bW1 : w.heap.size < v1.heap.size := Nat.lt_of_lt_of_le bW hv1.size
      have bL1 : wr.heap.size < v1.heap.size := Nat.lt_of_lt_of_le hlast hv1.size
      have HV1 := Lib.hid (HB1.out.trans (hv1.mono HB1.out.size))
      clear hv1 d0 d1 e0 e1 e2 e3
      go_wp2
      go_ret
      exact boolP HF.out.symm (hB1.out.trans (HV1.out.mono hB1.out.size))
    case pos =>
    have CN1 := Lib.hid (fun W => isNode_yes (g1 := g1) (g2 := g2) (n1 := n1) (n2 := n2) (c1 := c1) (c2 := c2) a W p0.1 p0.2)
    by_cases p1 : 0 ≤ b ∧ b < n1
    case neg =>
      have HF := Lib.hid (HNO.out fun h => p1 (by have := h.2.1; simp only at this; omega))
      have CN2 := Lib.hid (fun W => isNode_no (g1 := g1) (g2 := g2) (n1 := n1) (n2 := n2) (c1 := c1) (c2 := c2) b W (by omega))
      clear p1 p0
      go_wp2_with fail
      rw [HW1.out]
      clear hc0 hc1 hbw
      refine (CN1.out _).mono ?_
      rintro e v1 ⟨rfl, hv1⟩
      have d01 := (hv1.cell (p := ⟨w.heap.size, 0, none⟩) bW).trans d0
      have d11 := (hv1.cell (p := ⟨w.heap.size, 1, none⟩) bW).trans d1
      have e01 := (hv1.cell (p := ⟨wr.heap.size, 0, none⟩) hlast).trans e0
      have e11 := (hv1.cell (p := ⟨wr.heap.size, 1, none⟩) hlast).trans e1
      have e21 := (hv1.cell (p := ⟨wr.heap.size, 2, none⟩) hlast).trans e2
      have e31 := (hv1.cell (p := ⟨wr.heap.size, 3, none⟩) hlast).trans e3
      have bW1 : w.heap.size < v1.heap.size := Nat.lt_of_lt_of_le bW hv1.size
      have bL1 : wr.heap.size < v1.heap.size := Nat.lt_of_lt_of_le hlast hv1.size
      have HV1 := Lib.hid (HB1.out.trans (hv1.mono HB1.out.size))
      clear hv1 d0 d1 e0 e1 e2 e3
      go_wp2_with fail
      refine (CN2.out _).mono ?_
      rintro e v2 ⟨rfl, hv2⟩
      have d02 := (hv2.cell (p := ⟨w.heap.size, 0, none⟩) bW1).trans d01
      have d12 := (hv2.cell (p := ⟨w.heap.size, 1, none⟩) bW1).trans d11
      have e02 := (hv2.cell (p := ⟨wr.heap.size, 0, none⟩) bL1).trans e01
      have e12 := (hv2.cell (p := ⟨wr.heap.size, 1, none⟩) bL1).trans e11
      have e22 := (hv2.cell (p := ⟨wr.heap.size, 2, none⟩) bL1).trans e21
      have e32 := (hv2.cell (p := ⟨wr.heap.size, 3, none⟩) bL1).trans e31
      have HV2 := Lib.hid (HV1.out.trans (hv2.mono HV1.out.size))
      clear hv2 d01 d11 e01 e11 e21 e31
      go_wp2
      go_ret
      exact boolP HF.out.symm (hB1.out.trans (HV2.out.mono hB1.out.size))
    case pos =>
    have CN2 := Lib.hid (fun W => isNode_yes (g1 := g1) (g2 := g2) (n1 := n1) (n2 := n2) (c1 := c1) (c2 := c2) b W p1.1 p1.2)
    by_cases p2 : a = b
    case pos =>
      have HF := Lib.hid (HNO.out fun h => h.2.2.1 p2)
      subst p2
      clear p1 p0
      go_wp2_with fail
      rw [HW1.out]
      clear hc0 hc1 hbw
      refine (CN1.out _).mono ?_
      rintro e v1 ⟨rfl, hv1⟩
      have d01 := (hv1.cell (p := ⟨w.heap.size, 0, none⟩) bW).trans d0
      have d11 := (hv1.cell (p := ⟨w.heap.size, 1, none⟩) bW).trans d1
      have e01 := (hv1.cell (p := ⟨wr.heap.size, 0, none⟩) hlast).trans e0
      have e11 := (hv1.cell (p := ⟨wr.heap.size, 1, none⟩) hlast).trans e1
      have e21 := (hv1.cell (p := ⟨wr.heap.size, 2, none⟩) hlast).trans e2
      have e31 := (hv1.cell (p := ⟨wr.heap.size, 3, none⟩) hlast).trans e3
      have bW1 : w.heap.size < v1.heap.size := Nat.lt_of_lt_of_le bW hv1.size
      have bL1 : wr.heap.size < v1.heap.size := Nat.lt_of_lt_of_le hlast hv1.size
      have HV1 := Lib.hid (HB1.out.trans (hv1.mono HB1.out.size))
      clear hv1 d0 d1 e0 e1 e2 e3
      go_wp2_with fail
      refine (CN2.out _).mono ?_
      rintro e v2 ⟨rfl, hv2⟩
      have d02 := (hv2.cell (p := ⟨w.heap.size, 0, none⟩) bW1).trans d01
      have d12 := (hv2.cell (p := ⟨w.heap.size, 1, none⟩) bW1).trans d11
      have e02 := (hv2.cell (p := ⟨wr.heap.size, 0, none⟩) bL1).trans e01
      have e12 := (hv2.cell (p := ⟨wr.heap.size, 1, none⟩) bL1).trans e11
      have e22 := (hv2.cell (p := ⟨wr.heap.size, 2, none⟩) bL1).trans e21
      have e32 := (hv2.cell (p := ⟨wr.heap.size, 3, none⟩) bL1).trans e31
      have HV2 := Lib.hid (HV1.out.trans (hv2.mono HV1.out.size))
      clear hv2 d01 d11 e01 e11 e21 e31
      go_wp2
      go_ret
      exact boolP HF.out.symm (hB1.out.trans (HV2.out.mono hB1.out.size))
    case neg =>
    have q1 : (a == b) = false := by simpa using p2
    by_cases p3 : 1 ≤ c ∧ c ≤ 1000
    case neg =>
      have HF := Lib.hid (HNO.out fun h => p3 h.2.2.2.1)
      have CR := Lib.hid (fun W => rate_no c W (by omega))
      clear p0 p1 p2 p3
      go_wp2_with fail
      rw [HW1.out]
      clear hc0 hc1 hbw
      refine (CN1.out _).mono ?_
      rintro e v1 ⟨rfl, hv1⟩
      have d01 := (hv1.cell (p := ⟨w.heap.size, 0, none⟩) bW).trans d0
      have d11 := (hv1.cell (p := ⟨w.heap.size, 1, none⟩) bW).trans d1
      have e01 := (hv1.cell (p := ⟨wr.heap.size, 0, none⟩) hlast).trans e0
      have e11 := (hv1.cell (p := ⟨wr.heap.size, 1, none⟩) hlast).trans e1
      have e21 := (hv1.cell (p := ⟨wr.heap.size, 2, none⟩) hlast).trans e2
      have e31 := (hv1.cell (p := ⟨wr.heap.size, 3, none⟩) hlast).trans e3
      have bW1 : w.heap.size < v1.heap.size := Nat.lt_of_lt_of_le bW hv1.size
      have bL1 : wr.heap.size < v1.heap.size := Nat.lt_of_lt_of_le hlast hv1.size
      have HV1 := Lib.hid (HB1.out.trans (hv1.mono HB1.out.size))
      clear hv1 d0 d1 e0 e1 e2 e3
      go_wp2_with fail
      refine (CN2.out _).mono ?_
      rintro e v2 ⟨rfl, hv2⟩
      have d02 := (hv2.cell (p := ⟨w.heap.size, 0, none⟩) bW1).trans d01
      have d12 := (hv2.cell (p := ⟨w.heap.size, 1, none⟩) bW1).trans d11
      have e02 := (hv2.cell (p := ⟨wr.heap.size, 0, none⟩) bL1).trans e01
      have e12 := (hv2.cell (p := ⟨wr.heap.size, 1, none⟩) bL1).trans e11
      have e22 := (hv2.cell (p := ⟨wr.heap.size, 2, none⟩) bL1).trans e21
      have e32 := (hv2.cell (p := ⟨wr.heap.size, 3, none⟩) bL1).trans e31
      have HV2 := Lib.hid (HV1.out.trans (hv2.mono HV1.out.size))
      clear hv2 d01 d11 e01 e11 e21 e31
      go_wp2_with fail
      refine (CR.out _).mono ?_
      rintro e w' ⟨rfl, rfl⟩
      go_wp2
      go_ret
      exact boolP HF.out.symm (hB1.out.trans (HV2.out.mono hB1.out.size))
    case pos =>
    have CR := Lib.hid (fun W => rate_yes c W p3.1 p3.2)
    by_cases p4 : 0 ≤ d ∧ d ≤ 2
    case neg =>
      have HF := Lib.hid (HNO.out fun h => p4 h.2.2.2.2)
      have q4 : d < 0 ∨ 2 < d := by omega
      clear p0 p1 p2 p3 p4
      rcases q4 with q4 | q4
      all_goals
        go_wp2_with fail
        rw [HW1.out]
        clear hc0 hc1 hbw
        refine (CN1.out _).mono ?_
        rintro e v1 ⟨rfl, hv1⟩
        have d01 := (hv1.cell (p := ⟨w.heap.size, 0, none⟩) bW).trans d0
        have d11 := (hv1.cell (p := ⟨w.heap.size, 1, none⟩) bW).trans d1
        have e01 := (hv1.cell (p := ⟨wr.heap.size, 0, none⟩) hlast).trans e0
        have e11 := (hv1.cell (p := ⟨wr.heap.size, 1, none⟩) hlast).trans e1
        have e21 := (hv1.cell (p := ⟨wr.heap.size, 2, none⟩) hlast).trans e2
        have e31 := (hv1.cell (p := ⟨wr.heap.size, 3, none⟩) hlast).trans e3
        have bW1 : w.heap.size < v1.heap.size := Nat.lt_of_lt_of_le bW hv1.size
        have bL1 : wr.heap.size < v1.heap.size := Nat.lt_of_lt_of_le hlast hv1.size
        have HV1 := Lib.hid (HB1.out.trans (hv1.mono HB1.out.size))
        clear hv1 d0 d1 e0 e1 e2 e3
        go_wp2_with fail
        refine (CN2.out _).mono ?_
        rintro e v2 ⟨rfl, hv2⟩
        have d02 := (hv2.cell (p := ⟨w.heap.size, 0, none⟩) bW1).trans d01
        have d12 := (hv2.cell (p := ⟨w.heap.size, 1, none⟩) bW1).trans d11
        have e02 := (hv2.cell (p := ⟨wr.heap.size, 0, none⟩) bL1).trans e01
        have e12 := (hv2.cell (p := ⟨wr.heap.size, 1, none⟩) bL1).trans e11
        have e22 := (hv2.cell (p := ⟨wr.heap.size, 2, none⟩) bL1).trans e21
        have e32 := (hv2.cell (p := ⟨wr.heap.size, 3, none⟩) bL1).trans e31
        have HV2 := Lib.hid (HV1.out.trans (hv2.mono HV1.out.size))
        clear hv2 d01 d11 e01 e11 e21 e31
        go_wp2_with fail
        refine (CR.out _).mono ?_
        rintro e w' ⟨rfl, rfl⟩
        go_wp2
        go_ret
        exact boolP HF.out.symm (hB1.out.trans (HV2.out.mono hB1.out.size))
    case pos =>
    have HS2 := Lib.hid (HS.out ⟨⟨p0.1, by show a ≤ (n1 : Int) - 1; omega⟩, ⟨p1.1, by show b ≤ (n1 : Int) - 1; omega⟩, p2, p3, p4⟩)
    obtain ⟨p4a, p4b⟩ := p4
    clear p0 p1 p2 p3
    go_wp2_with fail
    rw [HW1.out]
    clear hc0 hc1 hbw
    refine (CN1.out _).mono ?_
    rintro e v1 ⟨rfl, hv1⟩
    have d01 := (hv1.cell (p := ⟨w.heap.size, 0, none⟩) bW).trans d0
    have d11 := (hv1.cell (p := ⟨w.heap.size, 1, none⟩) bW).trans d1
    have e01 := (hv1.cell (p := ⟨wr.heap.size, 0, none⟩) hlast).trans e0
    have e11 := (hv1.cell (p := ⟨wr.heap.size, 1, none⟩) hlast).trans e1
    have e21 := (hv1.cell (p := ⟨wr.heap.size, 2, none⟩) hlast).trans e2
    have e31 := (hv1.cell (p := ⟨wr.heap.size, 3, none⟩) hlast).trans e3
    have bW1 : w.heap.size < v1.heap.size := Nat.lt_of_lt_of_le bW hv1.size
    have bL1 : wr.heap.size < v1.heap.size := Nat.lt_of_lt_of_le hlast hv1.size
    have HV1 := Lib.hid (HB1.out.trans (hv1.mono HB1.out.size))
    clear hv1 d0 d1 e0 e1 e2 e3
    go_wp2_with fail
    refine (CN2.out _).mono ?_
    rintro e v2 ⟨rfl, hv2⟩
    have d02 := (hv2.cell (p := ⟨w.heap.size, 0, none⟩) bW1).trans d01
    have d12 := (hv2.cell (p := ⟨w.heap.size, 1, none⟩) bW1).trans d11
    have e02 := (hv2.cell (p := ⟨wr.heap.size, 0, none⟩) bL1).trans e01
    have e12 := (hv2.cell (p := ⟨wr.heap.size, 1, none⟩) bL1).trans e11
    have e22 := (hv2.cell (p := ⟨wr.heap.size, 2, none⟩) bL1).trans e21
    have e32 := (hv2.cell (p := ⟨wr.heap.size, 3, none⟩) bL1).trans e31
    have HV2 := Lib.hid (HV1.out.trans (hv2.mono HV1.out.size))
    clear hv2 d01 d11 e01 e11 e21 e31
    go_wp2_with fail
    refine (CR.out _).mono ?_
    rintro e w' ⟨rfl, rfl⟩
    go_wp2
    go_roundw
    case rel => exact ⟨k + 1, by omega, by go_num, HS2.out, HV2.out⟩
    case measure => simp [intOf]; omega
end Go.Proofs.Ytcbjdfgmkiodkaa
