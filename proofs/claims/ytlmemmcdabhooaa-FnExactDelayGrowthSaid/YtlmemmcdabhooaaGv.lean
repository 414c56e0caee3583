/- Growth of demands: contracts of IsValidGrowth and ActiveGrowth, both sides. No condition but those typed. -/
import Derived.Test.YtlmemmcdabhooaaGwS
import Derived.Test.YtlmemmcdabhooaaGB
import Derived.Test.YtlmemmcdabhooaaGA
namespace Go.Proofs.Ytlmemmcdabhooaa
open Go.ChangeShapes Go.WideShapes Go.ChangeAt Go.RowKit

def gwD (q : Q6) : Q4 := ⟨q.a, q.b, q.c, q.d⟩
def gtP (q : Q6) : Prop := 0 ≤ q.e ∧ q.e ≤ q.f ∧ q.f < 8
def gwsP (ss : List ByteArray) (fs : List Q4) (gs : List Q6) : Prop := gs.length ≤ 12 ∧ (∀ i (h : i < gs.length), demP (gwD gs[i]) ss.length ∧ gtP gs[i]) ∧ netP ss fs
theorem gws_dems {ss : List ByteArray} {fs : List Q4} {gs : List Q6} (ht : ∀ i (h : i < gs.length), gtP gs[i]) : pb (demsP ss fs (gs.map gwD)) = pb (gwsP ss fs gs) := by
  by_cases h : gwsP ss fs gs
  · rw [pb_true h]
    exact pb_true ⟨by rw [List.length_map]; exact h.1, fun i hi => by rw [List.length_map] at hi; rw [List.getElem_map]; exact (h.2.1 i hi).1, h.2.2⟩
  · rw [pb_false h]
    refine pb_false fun hd => h ⟨by have := hd.1; rw [List.length_map] at this; exact this, fun i hi => ⟨?_, ht i hi⟩, hd.2.2⟩
    have := hd.2.1 i (by rw [List.length_map]; exact hi)
    rw [List.getElem_map] at this; exact this
theorem in_ret (x a b : Int) (w : World) : Calls Try.prog 62 #[.int .i64 x, .int .i64 a, .int .i64 b] w (RetP (.bool (decide (a ≤ x ∧ x ≤ b))) w) :=
  (in_any x a b w).mono fun _ _ ⟨h1, h2⟩ => ⟨h1, by rw [← h2]; exact Below.refl _ _⟩

set_option maxRecDepth 100000 in
set_option maxHeartbeats 4000000 in
theorem l26Good_ {g1 g2 n1 n2 c1 c2 : Nat} {ss : List ByteArray} {fs : List Q4} {w : World} (h : NetAt g1 g2 n1 n2 c1 c2 ss fs w) {g3 n3 c3 : Nat} {gs : List Q6} (hn3 : gs.length = n3) (hs3 : n3 ≤ 1048576) (hrd : Rd w w.heap.size (some ⟨g3, 0, none⟩) (gs.flatMap Q6.cells)) :
    Calls Try.prog 61 #[.agg #[.slice (some ⟨g1, 0, none⟩) n1 c1, .slice (some ⟨g2, 0, none⟩) n2 c2], .slice (some ⟨g3, 0, none⟩) n3 c3] w (RetP (.bool (pb (gwsP ss fs gs))) w) := by
  have hs1 := h.sm1
  have HL1 := Lib.hid h.ln1
  have HNT := Lib.hid h; have HN3 := Lib.hid hn3; have HRD := Lib.hid hrd
  clear h hn3 hrd
  obtain ⟨r, hr⟩ : ∃ r, pb (gwsP ss fs gs) = r := ⟨_, rfl⟩
  have HNO : Hid (¬ gwsP ss fs gs → r = false) := Lib.hid (fun e => by rw [← hr]; exact pb_false e)
  have HYES : Hid (gwsP ss fs gs → r = true) := Lib.hid (fun e => by rw [← hr]; exact pb_true e)
  rw [hr]
  clear hr
  go_enter Try.func61, Try.ntmps61
  go_wp2_with fail
  obtain ⟨W0, hW0⟩ : ∃ W0, w.alloc (Obj.cells #[.slice (some ⟨g1, 0, none⟩) n1 c1, .slice (some ⟨g2, 0, none⟩) n2 c2] 34) = W0 := ⟨_, rfl⟩
  have hb0 : Below w.heap.size w W0 := by rw [← hW0]; exact (Below.refl _ _).alloc (Nat.le_refl _) _
  have hk0 : W0.cell? ⟨w.heap.size, 0, none⟩ = some (.slice (some ⟨g1, 0, none⟩) n1 c1) := by rw [← hW0]; simp [go_sem]
  have hk1 : W0.cell? ⟨w.heap.size, 1, none⟩ = some (.slice (some ⟨g2, 0, none⟩) n2 c2) := by rw [← hW0]; simp [go_sem]
  have hz0 : w.heap.size < W0.heap.size := by rw [← hW0]; simp
  have HB0 := Lib.hid hb0
  rw [hW0]
  clear hW0 hb0
  refine (specNet_ (HNT.out.moved HB0.out)).mono ?_
  rintro e w1 ⟨rfl, hb1⟩
  have HB1 := Lib.hid (HB0.out.trans (hb1.mono HB0.out.size))
  have HK0 := Lib.hid ((hb1.cell (p := ⟨w.heap.size, 0, none⟩) hz0).trans hk0)
  have HK1 := Lib.hid ((hb1.cell (p := ⟨w.heap.size, 1, none⟩) hz0).trans hk1)
  have HZ1 := Lib.hid (Nat.lt_of_lt_of_le hz0 hb1.size)
  clear hb1 hk0 hk1 hz0
  by_cases hv : netP ss fs
  case neg =>
    have HE := Lib.hid (HNO.out (fun e => hv e.2.2))
    rw [pb_false hv]
    clear hv
    go_wp2
    go_ret
    exact ⟨retb HE.out.symm, HB1.out⟩
  case pos =>
  have HV := Lib.hid hv
  rw [pb_true hv]
  clear hv
  by_cases hl : n3 ≤ 12
  case neg =>
    have HE := Lib.hid (HNO.out (fun e => hl (by have := e.1; have := HN3.out; omega)))
    have hl2 : 12 < (n3 : Int) := by omega
    clear hl
    go_wp2
    go_ret
    exact ⟨retb HE.out.symm, HB1.out⟩
  case pos =>
  go_wp2
  go_loopw [5] (fun i wr => ∃ k : Nat, k ≤ n3 ∧ i = .int .i64 k ∧ Hid (∀ j (h : j < gs.length), j < k → demP (gwD gs[j]) n1 ∧ gtP gs[j]) ∧ Below w1.heap.size w1 wr) (fun i _ => n3 - (intOf i).toNat)
  case atStart => exact ⟨0, Nat.zero_le _, rfl, Lib.hid (fun j _ h => absurd h (by omega)), Below.refl _ _⟩
  case round =>
    obtain ⟨k, hk, rfl, HALL, hb⟩ := hrel
    have HBR := Lib.hid hb
    have HBRW := Lib.hid (HB1.out.trans (hb.mono HB1.out.size))
    clear hb
    by_cases hlt : k < n3
    case neg =>
      obtain rfl : k = n3 := by omega
      have HE := Lib.hid (HYES.out ⟨by have := HN3.out; omega, fun i hi => by rw [HL1.out]; exact HALL.out i hi (by have := HN3.out; omega), HV.out⟩)
      clear hlt
      go_wp2
      go_ret
      exact ⟨retb HE.out.symm, HBRW.out⟩
    case pos =>
    have hks : k < gs.length := by have := HN3.out; omega
    obtain ⟨T, f, x0, hx0, hTT, HST⟩ := above wr
    haveI : Nonempty T := ⟨x0⟩
    have HXX := Lib.hid hx0
    have HBX : Hid (∀ x, Below w.heap.size w (f x)) := Lib.hid (fun x => HBRW.out.trans ((hTT x).mono HBRW.out.size))
    have HTX : Hid (∀ x, Below w1.heap.size w1 (f x)) := Lib.hid (fun x => HBR.out.trans ((hTT x).mono HBR.out.size))
    clear hTT hx0
    have hk0 : ∀ x, (f x).cell? ⟨w.heap.size, 0, none⟩ = some (.slice (some ⟨g1, 0, none⟩) n1 c1) := fun x => ((HTX.out x).cell (p := ⟨w.heap.size, 0, none⟩) HZ1.out).trans HK0.out
    have hk1 : ∀ x, (f x).cell? ⟨w.heap.size, 1, none⟩ = some (.slice (some ⟨g2, 0, none⟩) n2 c2) := fun x => ((HTX.out x).cell (p := ⟨w.heap.size, 1, none⟩) HZ1.out).trans HK1.out
    obtain ⟨⟨q0, q1, q2, q3, q4, q5⟩, hq⟩ : ∃ q, gs[k]'hks = q := ⟨_, rfl⟩
    have hr : ∀ x, (f x).cell? ⟨g3, k * 6, none⟩ = some (.int .i64 q0) ∧ (f x).cell? ⟨g3, k * 6 + 1, none⟩ = some (.int .i64 q1) ∧ (f x).cell? ⟨g3, k * 6 + 2, none⟩ = some (.int .i64 q2) ∧ (f x).cell? ⟨g3, k * 6 + 3, none⟩ = some (.int .i64 q3) ∧ (f x).cell? ⟨g3, k * 6 + 4, none⟩ = some (.int .i64 q4) ∧ (f x).cell? ⟨g3, k * 6 + 5, none⟩ = some (.int .i64 q5) := fun x => by
      obtain ⟨_, f0, f1, f2, f3, f4, f5⟩ := (HRD.out.moved (HBX.out x)).q6c hks
      rw [Nat.zero_add, hq] at f0 f1 f2 f3 f4 f5
      exact ⟨f0, f1, f2, f3, f4, f5⟩
    have r0 := fun x => (hr x).1
    have r1 := fun x => (hr x).2.1
    have r2 := fun x => (hr x).2.2.1
    have r3 := fun x => (hr x).2.2.2.1
    have r4 := fun x => (hr x).2.2.2.2.1
    have r5 := fun x => (hr x).2.2.2.2.2
    have HNX : Hid (¬ (demP ⟨q0, q1, q2, q3⟩ n1 ∧ gtP ⟨q0, q1, q2, q3, q4, q5⟩) → r = false) := Lib.hid (fun hp => HNO.out fun e => hp (by have := e.2.1 k hks; rw [hq, HL1.out] at this; exact this))
    have HS : Hid ((demP ⟨q0, q1, q2, q3⟩ n1 ∧ gtP ⟨q0, q1, q2, q3, q4, q5⟩) → ∀ j (h : j < gs.length), j < k + 1 → demP (gwD gs[j]) n1 ∧ gtP gs[j]) := Lib.hid (by
      intro hp j h hj
      by_cases hjk : j < k
      · exact HALL.out j h hjk
      · obtain rfl : j = k := by omega
        rw [hq]; exact hp)
    clear hr hq
    have CD : Hid (∀ x, Calls Try.prog 123 #[.agg #[.slice (some ⟨g1, 0, none⟩) n1 c1, .slice (some ⟨g2, 0, none⟩) n2 c2], .agg #[.int .i64 q0, .int .i64 q1, .int .i64 q2, .int .i64 q3]] (f x) (RetP (.bool (pb (demP ⟨q0, q1, q2, q3⟩ n1))) (f x))) := Lib.hid fun x => specDem q0 q1 q2 q3 (f x) hs1
    have CI : Hid (∀ x, Calls Try.prog 62 #[.int .i64 q4, .int .i64 0, .int .i64 q5] (f x) (RetP (.bool (decide (0 ≤ q4 ∧ q4 ≤ q5))) (f x))) := Lib.hid fun x => in_ret q4 0 q5 (f x)
    by_cases hd : demP ⟨q0, q1, q2, q3⟩ n1
    case neg =>
      have HE := Lib.hid (HNX.out (fun e => hd e.1))
      rw [pb_false hd] at CD
      clear hd
      go_wp2_with fail
      refine wp_region_class f (by kernel_rfl) (by kernel_rfl) x0 HXX.out ?_
      repeat (go_big_quiet_step (first | (go_at_call 123; exact Calls.inClass HST (CD.out _))))
      refine wpQuiet_nil ?_
      rintro _ ⟨t, rfl⟩
      have HB3 := Lib.hid (HBX.out t)
      clear r0 r1 r2 r3 r4 r5 hk0 hk1
      go_wp2
      go_ret
      exact ⟨retb HE.out.symm, HB3.out⟩
    case pos =>
    rw [pb_true hd] at CD
    by_cases hi : 0 ≤ q4 ∧ q4 ≤ q5
    case neg =>
      have HE := Lib.hid (HNX.out (fun e => hi ⟨e.2.1, e.2.2.1⟩))
      rw [decide_eq_false hi] at CI
      clear hd hi
      go_wp2_with fail
      refine wp_region_class f (by kernel_rfl) (by kernel_rfl) x0 HXX.out ?_
      repeat (go_big_quiet_step (first | (go_at_call 123; exact Calls.inClass HST (CD.out _)) | (go_at_call 62; exact Calls.inClass HST (CI.out _))))
      refine wpQuiet_nil ?_
      rintro _ ⟨t, rfl⟩
      have HB3 := Lib.hid (HBX.out t)
      clear r0 r1 r2 r3 r4 r5 hk0 hk1
      go_wp2
      go_ret
      exact ⟨retb HE.out.symm, HB3.out⟩
    case pos =>
    rw [decide_eq_true hi] at CI
    by_cases h8 : q5 < 8
    case neg =>
      have HE := Lib.hid (HNX.out (fun e => h8 e.2.2.2))
      have hq8 : 8 ≤ q5 := by omega
      have hq9 : decide (8 ≤ q5) = true := decide_eq_true hq8
      clear hd hi h8
      go_wp2_with fail
      refine wp_region_class f (by kernel_rfl) (by kernel_rfl) x0 HXX.out ?_
      repeat (go_big_quiet_step (first | (go_at_call 123; exact Calls.inClass HST (CD.out _)) | (go_at_call 62; exact Calls.inClass HST (CI.out _))))
      refine wpQuiet_nil ?_
      rintro _ ⟨t, rfl⟩
      have HB3 := Lib.hid (HBX.out t)
      clear r0 r1 r2 r3 r4 r5 hk0 hk1
      go_wp2
      go_ret
      exact ⟨retb HE.out.symm, HB3.out⟩
    case pos =>
      have HAL2 := Lib.hid (HS.out ⟨hd, hi.1, hi.2, h8⟩)
      have hq9 : decide (8 ≤ q5) = false := decide_eq_false (by omega)
      clear hd hi
      go_wp2_with fail
      refine wp_region_class f (by kernel_rfl) (by kernel_rfl) x0 HXX.out ?_
      repeat (go_big_quiet_step (first | (go_at_call 123; exact Calls.inClass HST (CD.out _)) | (go_at_call 62; exact Calls.inClass HST (CI.out _))))
      refine wpQuiet_nil ?_
      rintro _ ⟨t, rfl⟩
      have HB3 := Lib.hid (HTX.out t)
      clear r0 r1 r2 r3 r4 r5 hk0 hk1
      go_wp2
      go_roundw
      case rel => exact ⟨k + 1, by omega, by go_num, HAL2, HB3.out⟩
      case measure => simp [intOf]; omega

set_option maxRecDepth 100000 in
set_option maxHeartbeats 4000000 in
theorem implGV {g1 g2 n1 n2 c1 c2 : Nat} {ss : List ByteArray} {fs : List Q4} {w : World} (h : NetAt g1 g2 n1 n2 c1 c2 ss fs w) {g3 n3 c3 : Nat} {gs : List Q6} (hn3 : gs.length = n3) (hrd : Rd w w.heap.size (some ⟨g3, 0, none⟩) (gs.flatMap Q6.cells)) (hs3 : n3 ≤ 1048576) :
    Calls Try.prog 66 #[.agg #[.slice (some ⟨g1, 0, none⟩) n1 c1, .slice (some ⟨g2, 0, none⟩) n2 c2], .slice (some ⟨g3, 0, none⟩) n3 c3] w (RetP (.bool (pb (gwsP ss fs gs))) w) := by
  have HNT := Lib.hid h; have HN3 := Lib.hid hn3; have HRD := Lib.hid hrd
  clear h hn3 hrd
  obtain ⟨i0, hi, hz0_, hz1_, hz2_⟩ := info_parts Try.inf_Dem
  have HI := Lib.hid hi; have HZI0 := Lib.hid hz0_; have HZI1 := Lib.hid hz1_; have HZI2 := Lib.hid hz2_
  clear hi hz0_ hz1_ hz2_
  obtain ⟨r, hr⟩ : ∃ r, pb (gwsP ss fs gs) = r := ⟨_, rfl⟩
  have HR := Lib.hid hr
  have HNO : Hid (¬ gwsP ss fs gs → r = false) := Lib.hid (fun e => by rw [← hr]; exact pb_false e)
  rw [hr]
  clear hr
  go_enter Try.func66, Try.ntmps66
  by_cases hl : n3 ≤ 12
  case neg =>
    have HE := Lib.hid (HNO.out (fun e => hl (by have := e.1; have := HN3.out; omega)))
    have hl2 : 12 < (n3 : Int) := by omega
    have HB := Lib.hid ((Below.refl w.heap.size w).alloc (Nat.le_refl _) (Obj.cells #[.slice (some ⟨g1, 0, none⟩) n1 c1, .slice (some ⟨g2, 0, none⟩) n2 c2] 34))
    clear hl
    go_wp2
    go_ret
    exact ⟨retb HE.out.symm, HB.out⟩
  case pos =>
  obtain ⟨W0, hW0⟩ : ∃ W0, w.alloc (Obj.cells #[.slice (some ⟨g1, 0, none⟩) n1 c1, .slice (some ⟨g2, 0, none⟩) n2 c2] 34) = W0 := ⟨_, rfl⟩
  have hb0 : Below w.heap.size w W0 := by rw [← hW0]; exact (Below.refl _ _).alloc (Nat.le_refl _) _
  have hk0 : W0.cell? ⟨w.heap.size, 0, none⟩ = some (.slice (some ⟨g1, 0, none⟩) n1 c1) := by rw [← hW0]; simp [go_sem]
  have hk1 : W0.cell? ⟨w.heap.size, 1, none⟩ = some (.slice (some ⟨g2, 0, none⟩) n2 c2) := by rw [← hW0]; simp [go_sem]
  have hz0 : w.heap.size < W0.heap.size := by rw [← hW0]; simp
  have HB0 := Lib.hid hb0; have HK0 := Lib.hid hk0; have HK1 := Lib.hid hk1; have HZ0 := Lib.hid hz0; have HW0 := Lib.hid hW0
  clear hW0 hb0 hk0 hk1 hz0
  go_wp2_with (at_make; rw [HW0.out]; refine wpList_make_full _ rfl _ _ 175 rfl W0.heap.size 102 i0 _ 4 Try.underlying175 HI.out HZI0.out HZI1.out .i64 .i64 n3 n3 n3 rfl rfl rfl rfl (by rw [HZI2.out]; omega) (by unfold maxLen; omega) (Nat.le_refl _) ?_)
  intro w1 hown hgrow
  have HB1 : Hid (Below W0.heap.size W0 w1) := Lib.hid ((Below.refl _ _).grown hgrow (Nat.le_refl _) (fun k h => by cases h))
  have HO1 : Hid (w1.ownsRow W0.heap.size 102 4 (.slice (some ⟨W0.heap.size, 0, none⟩) n3 n3) n3 (fill Q4.cells 4 (gs.map gwD) 0 n3)) := Lib.hid (by rw [fill_zero, ← made4]; exact hown)
  have HND : Hid ((gs.map gwD).length = n3) := Lib.hid (by rw [List.length_map]; exact HN3.out)
  clear hown hgrow
  go_wp2
  go_loopw [16] (fun i wr => ∃ k : Nat, k ≤ n3 ∧ i = .int .i64 k ∧ Hid (∀ j (h : j < gs.length), j < k → gtP gs[j]) ∧ Hid (wr.ownsRow W0.heap.size 102 4 (.slice (some ⟨W0.heap.size, 0, none⟩) n3 n3) n3 (fill Q4.cells 4 (gs.map gwD) k n3)) ∧ Below W0.heap.size W0 wr) (fun i _ => n3 - (intOf i).toNat)
  case atStart => exact ⟨0, Nat.zero_le _, rfl, Lib.hid (fun j _ h => absurd h (by omega)), HO1, HB1.out⟩
  case round =>
    obtain ⟨k, hk, rfl, HALL, HOW, hb⟩ := hrel
    have HBR := Lib.hid hb
    have HBRW := Lib.hid (HB0.out.trans (hb.mono HB0.out.size))
    clear hb
    by_cases hlt : k < n3
    case neg =>
      obtain rfl : k = n3 := by omega
      have l0 := (HBR.out.cell (p := ⟨w.heap.size, 0, none⟩) HZ0.out).trans HK0.out
      have l1 := (HBR.out.cell (p := ⟨w.heap.size, 1, none⟩) HZ0.out).trans HK1.out
      have hzw : w.heap.size < wr.heap.size := Nat.lt_of_lt_of_le HZ0.out HBR.out.size
      have ho := HOW.out
      rw [fill_all Q4.cells 4 (gs.map gwD) k HND.out] at ho
      have CD := Lib.hid (implDems (HNT.out.moved HBRW.out) W0.heap.size k k (gs.map gwD) HND.out hs3 (Rd.ofOwnK ho))
      have HRE : Hid (pb (demsP ss fs (gs.map gwD)) = r) := Lib.hid ((gws_dems (fun i hi => HALL.out i hi (by have := HN3.out; omega))).trans HR.out)
      rw [HRE.out] at CD
      clear ho hlt
      go_wp2_with fail
      refine CD.out.mono ?_
      rintro e w2 ⟨rfl, hb2⟩
      have HB2 := Lib.hid (HBRW.out.trans (hb2.mono HBRW.out.size))
      clear hb2 l0 l1 hzw
      go_wp2
      go_ret
      exact ⟨rfl, HB2.out⟩
    case pos =>
    have hks : k < gs.length := by have := HN3.out; omega
    obtain ⟨hg, f0, f1, f2, f3, f4, f5⟩ := (HRD.out.moved HBRW.out).q6c hks
    rw [Nat.zero_add] at f0 f1 f2 f3 f4 f5
    obtain ⟨⟨q0, q1, q2, q3, q4, q5⟩, hq⟩ : ∃ q, gs[k]'hks = q := ⟨_, rfl⟩
    rw [hq] at f0 f1 f2 f3 f4 f5
    have HQ : Hid ((gs.map gwD)[k]'(by have := HND.out; omega) = ⟨q0, q1, q2, q3⟩) := Lib.hid (by rw [List.getElem_map, hq]; rfl)
    have HNX : Hid (¬ gtP ⟨q0, q1, q2, q3, q4, q5⟩ → r = false) := Lib.hid (fun hp => HNO.out fun e => hp (by have := (e.2.1 k hks).2; rw [hq] at this; exact this))
    have HS : Hid (gtP ⟨q0, q1, q2, q3, q4, q5⟩ → ∀ j (h : j < gs.length), j < k + 1 → gtP gs[j]) := Lib.hid (by
      intro hp j h hj
      by_cases hjk : j < k
      · exact HALL.out j h hjk
      · obtain rfl : j = k := by omega
        rw [hq]; exact hp)
    simp only at f0 f1 f2 f3 f4 f5
    clear hq
    have HBA := Lib.hid (HBR.out.alloc HBR.out.size (Obj.cells #[.int .i64 q0, .int .i64 q1, .int .i64 q2, .int .i64 q3, .int .i64 q4, .int .i64 q5] 104))
    by_cases h0 : 0 ≤ q4
    case neg =>
      have HE := Lib.hid (HNX.out (fun e => h0 e.1))
      have HBAW := Lib.hid (HB0.out.trans (HBA.out.mono HB0.out.size))
      have p0 : q4 < 0 := by omega
      clear h0
      go_wp2
      go_ret
      exact ⟨retb HE.out.symm, HBAW.out⟩
    case pos =>
    by_cases h1 : q4 ≤ q5
    case neg =>
      have HE := Lib.hid (HNX.out (fun e => h1 e.2.1))
      have HBAW := Lib.hid (HB0.out.trans (HBA.out.mono HB0.out.size))
      have p1 : q5 < q4 := by omega
      clear h1
      go_wp2
      go_ret
      exact ⟨retb HE.out.symm, HBAW.out⟩
    case pos =>
    by_cases h8 : q5 < 8
    case neg =>
      have HE := Lib.hid (HNX.out (fun e => h8 e.2.2))
      have HBAW := Lib.hid (HB0.out.trans (HBA.out.mono HB0.out.size))
      have p1 : 8 ≤ q5 := by omega
      clear h8
      go_wp2
      go_ret
      exact ⟨retb HE.out.symm, HBAW.out⟩
    case pos =>
      have HAL2 := Lib.hid (HS.out ⟨h0, h1, h8⟩)
      have hown := HOW.out.alloc (Obj.cells #[.int .i64 q0, .int .i64 q1, .int .i64 q2, .int .i64 q3, .int .i64 q4, .int .i64 q5] 104)
      have hold0 := HOW.out.cellAt (k * 4) (by omega)
      have hold1 := HOW.out.cellAt (k * 4 + 1) (by omega)
      have hold2 := HOW.out.cellAt (k * 4 + 2) (by omega)
      have hold3 := HOW.out.cellAt (k * 4 + 3) (by omega)
      rw [fill_get0 Q4.cells 4 (gs.map gwD) k n3 (fun _ => rfl) HND.out hlt (by omega)] at hold0
      rw [fill_get Q4.cells 4 (gs.map gwD) k n3 1 (fun _ => rfl) HND.out hlt (by omega)] at hold1
      rw [fill_get Q4.cells 4 (gs.map gwD) k n3 2 (fun _ => rfl) HND.out hlt (by omega)] at hold2
      rw [fill_get Q4.cells 4 (gs.map gwD) k n3 3 (fun _ => rfl) HND.out hlt (by omega)] at hold3
      have hfz0 := HOW.out.frozenAt (k * 4)
      have hfz1 := HOW.out.frozenAt (k * 4 + 1)
      have hfz2 := HOW.out.frozenAt (k * 4 + 2)
      have hfz3 := HOW.out.frozenAt (k * 4 + 3)
      have hst := ((((HOW.out.stored (k * 4) (.int .i64 q0)).1.stored (k * 4 + 1) (.int .i64 q1)).1.stored (k * 4 + 2) (.int .i64 q2)).1.stored (k * 4 + 3) (.int .i64 q3)).1
      have hfs := fill_set4 (gs.map gwD) k n3 HND.out hlt
      rw [HQ.out] at hfs
      simp only at hfs
      rw [hfs] at hst
      have HST := Lib.hid (hst.alloc (Obj.cells #[.int .i64 q0, .int .i64 q1, .int .i64 q2, .int .i64 q3, .int .i64 q4, .int .i64 q5] 104))
      have HBS := Lib.hid (((((HBR.out.setCell (p := ⟨W0.heap.size, k * 4, none⟩) (Nat.le_refl _) (.int .i64 q0)).setCell (p := ⟨W0.heap.size, k * 4 + 1, none⟩) (Nat.le_refl _) (.int .i64 q1)).setCell (p := ⟨W0.heap.size, k * 4 + 2, none⟩) (Nat.le_refl _) (.int .i64 q2)).setCell (p := ⟨W0.heap.size, k * 4 + 3, none⟩) (Nat.le_refl _) (.int .i64 q3)).alloc (by simp; exact HBR.out.size) (Obj.cells #[.int .i64 q0, .int .i64 q1, .int .i64 q2, .int .i64 q3, .int .i64 q4, .int .i64 q5] 104))
      have hsz : W0.heap.size < wr.heap.size := (HOW.out.lt _ rfl).2
      clear hown hst hfs
      go_wp2
      go_roundw
      case rel => exact ⟨k + 1, by omega, by go_num, HAL2, HST, HBS.out⟩
      case measure => simp [intOf]; omega
end Go.Proofs.Ytlmemmcdabhooaa
