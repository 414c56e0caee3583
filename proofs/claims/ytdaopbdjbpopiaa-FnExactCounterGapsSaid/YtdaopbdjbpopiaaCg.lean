/- Frames: where the counter jumps: contracts of CounterGaps, both sides. No condition but those typed. -/
import Derived.Test.YtdaopbdjbpopiaaReg
import Derived.Test.YtdaopbdjbpopiaaNeFr
import Derived.Test.YtdaopbdjbpopiaaFrV
import Derived.Test.YtdaopbdjbpopiaaSet
namespace Go.Proofs.Ytdaopbdjbpopiaa
open Go.ChangeShapes Go.WideShapes Go.ChangeAt Go.RowKit

def frn (ds : List FrD) (k : Nat) : FrD := ds.getD k ⟨0, 0, []⟩
theorem frn_at {ys : List Fr} {ds : List FrD} (hd : ys.map Fr.d = ds) {k : Nat} (hk : k < ys.length) {y : Fr} (hy : ys[k] = y) : frn ds k = y.d := by
  subst hd
  unfold frn
  rw [List.getD_eq_getElem?_getD, List.getElem?_map, List.getElem?_eq_getElem hk, hy]; rfl
def frnB (ds : List FrD) (k : Nat) : Bool := frB (frn ds k).p0 (frn ds k).p1 (frn ds k).zs
def frsP (ds : List FrD) : Prop := ds.length ≤ 12 ∧ ∀ k, k < ds.length → frnB ds k = true
theorem frB_p0 {a b : Int} {zs : List Int} (h : frB a b zs = true) : 0 ≤ a ∧ a ≤ 255 := by
  unfold frB at h
  rw [Bool.and_eq_true, Bool.and_eq_true, Bool.and_eq_true] at h
  have h1 := h.1.1.1
  unfold inB at h1
  simpa using h1
def cgQ (ds : List FrD) (k : Nat) : Bool := decide (0 < k) && decide ((frn ds k).p0 ≠ ((frn ds (k - 1)).p0 + 1) % 256)
def cgK (ds : List FrD) : Nat → List Int
  | 0 => []
  | k + 1 => if cgQ ds k then cgK ds k ++ [(k : Int)] else cgK ds k
theorem cg_in {ds : List FrD} {k : Nat} (h : cgQ ds k = true) : cgK ds (k + 1) = cgK ds k ++ [(k : Int)] := by rw [cgK, h]; rfl
theorem cg_out {ds : List FrD} {k : Nat} (h : cgQ ds k = false) : cgK ds (k + 1) = cgK ds k := by rw [cgK, h]; rfl
theorem cg_one (ds : List FrD) : cgK ds 1 = [] := cg_out (by unfold cgQ; rfl)
theorem cg_eq {ds : List FrD} {j : Nat} {a b r : Int} (ha : (frn ds (j + 1)).p0 = a) (hb : (frn ds j).p0 = b) (hr : (b + 1) % 256 = r) : cgQ ds (j + 1) = decide (a ≠ r) := by
  unfold cgQ
  rw [Nat.add_sub_cancel, ha, hb, hr, decide_eq_true (Nat.succ_pos j), Bool.true_and]
theorem cg_len (ds : List FrD) : ∀ k, (cgK ds k).length ≤ k
  | 0 => Nat.le_refl _
  | k + 1 => by
    have := cg_len ds k
    rw [cgK]
    split
    · rw [List.length_append]; exact Nat.succ_le_succ this
    · exact Nat.le_succ_of_le this
noncomputable def cgB (ds : List FrD) : Bool := pb (frsP ds)
noncomputable def cgL (ds : List FrD) : List Int := if cgB ds then cgK ds ds.length else []
theorem cg_no {ds : List FrD} (e : ¬ frsP ds) : cgL ds = [] ∧ cgB ds = false := by
  have hb : cgB ds = false := pb_false e
  exact ⟨by unfold cgL; rw [hb]; rfl, hb⟩
theorem cg_yes {ds : List FrD} (e : frsP ds) : cgL ds = cgK ds ds.length ∧ cgB ds = true := by
  have hb : cgB ds = true := pb_true e
  exact ⟨by unfold cgL; rw [hb]; rfl, hb⟩
theorem cgL_len (ds : List FrD) : (cgL ds).length ≤ ds.length := by
  unfold cgL
  split
  · exact cg_len _ _
  · simp

set_option maxRecDepth 100000 in
set_option maxHeartbeats 4000000 in
theorem specFrs {B0 g n : Nat} {ys : List Fr} {ds : List FrD} {w : World} (hT : Frs B0 g n ys w) (hd : ys.map Fr.d = ds) (hs : n ≤ 1048576) :
    Calls Try.prog 154 #[.slice (some ⟨g, 0, none⟩) n n] w (RetV (.bool (pb (frsP ds))) w) := by
  have HT := Lib.hid hT; have HD := Lib.hid hd
  have HLD : Hid (ds.length = n) := Lib.hid (by rw [← hd, List.length_map]; exact hT.len)
  clear hT hd
  obtain ⟨r, hrr⟩ : ∃ r, pb (frsP ds) = r := ⟨_, rfl⟩
  rw [hrr]
  have HRR := Lib.hid hrr
  clear hrr
  go_enter Try.func154, Try.ntmps154
  go_wp2
  go_loopw [3] (fun i wr => ∃ k : Nat, k ≤ n ∧ k ≤ 13 ∧ i = .int .i64 k ∧ Hid (∀ j, j < k → frnB ds j = true) ∧ Below w.heap.size w wr) (fun i _ => n - (intOf i).toNat)
  case atStart => exact ⟨0, Nat.zero_le _, by omega, rfl, Lib.hid (fun j hj => by omega), Below.refl _ _⟩
  case round =>
    obtain ⟨k, hk, hk13, rfl, HA, hb0⟩ := hrel
    have HBW := Lib.hid hb0
    clear hb0
    by_cases hlt : k < n ∧ k ≤ 12
    case neg =>
      by_cases hn12 : n ≤ 12
      case pos =>
        have hkn : k = n := by omega
        have HE : Hid (decide ((k : Int) ≤ 12) = r) := Lib.hid (by rw [← HRR.out]; exact (decide_eq_true (by omega)).trans (pb_true ⟨by have := HLD.out; omega, fun j hj => HA.out j (by have := HLD.out; omega)⟩).symm)
        subst hkn
        clear hlt
        go_wp2
        go_ret
        exact ⟨retb HE.out, HBW.out⟩
      case neg =>
        have HE : Hid (decide ((n : Int) ≤ 12) = r) := Lib.hid (by rw [← HRR.out]; exact (decide_eq_false (by omega)).trans (pb_false (fun h => hn12 (by have := h.1; have := HLD.out; omega))).symm)
        have hk1 : k = 13 := by omega
        have hn1 : 12 < n := by omega
        have hd1 : decide (n ≤ 12) = false := decide_eq_false hn12
        subst hk1
        clear hlt hn12
        by_cases h13 : 13 < n
        · go_wp2
          go_ret
          exact ⟨retb HE.out, HBW.out⟩
        · go_wp2
          go_ret
          exact ⟨retb HE.out, HBW.out⟩
    case pos =>
    obtain ⟨hlt, hk12⟩ := hlt
    have hky : k < ys.length := by have := HT.out.len; omega
    obtain ⟨y, hy⟩ : ∃ y, ys[k]'hky = y := ⟨_, rfl⟩
    obtain ⟨hg, f0, f1, f2⟩ := (HT.out.moved HBW.out).rd.frc hky
    rw [Nat.zero_add, hy] at f0 f1 f2
    have HDK := Lib.hid (frn_at HD.out hky hy)
    have hyy := (HT.out.at_ ys[k] (List.getElem_mem hky))
    rw [hy] at hyy
    obtain ⟨p0, p1, A, mm, c, zs⟩ := y
    obtain ⟨hyn, hys, hyr⟩ := hyy
    simp only at f0 f1 f2 hyn hys hyr
    have HFB : Hid (frnB ds k = frB p0 p1 zs) := Lib.hid (by unfold frnB; rw [HDK.out]; rfl)
    obtain ⟨b, hb⟩ : ∃ b, frB p0 p1 zs = b := ⟨_, rfl⟩
    rw [hb] at HFB
    have CG := Lib.hid (sGood p0 p1 A mm c zs _ hyn hys (hyr.moved HBW.out))
    rw [hb] at CG
    clear hb hy hyn hyr
    go_wp2_with fail
    refine CG.out.mono ?_
    rintro e w2 ⟨rfl, hb2⟩
    have HB2 := Lib.hid (HBW.out.trans (hb2.mono HBW.out.size))
    clear hb2 f0 f1 f2
    cases b
    case false =>
      have HE : Hid (false = r) := Lib.hid (by rw [← HRR.out]; exact (pb_false (fun h => by have h9 := h.2 k (by have := HLD.out; omega); rw [HFB.out] at h9; cases h9)).symm)
      go_wp2
      go_ret
      exact ⟨retb HE.out, HB2.out⟩
    case true =>
      have HA1 : Hid (∀ j, j < k + 1 → frnB ds j = true) := Lib.hid (fun j hj => by
        rcases Nat.lt_or_ge j k with hj' | hj'
        · exact HA.out j hj'
        · obtain rfl : j = k := by omega
          exact HFB.out)
      go_wp2
      go_roundw
      case rel => exact ⟨k + 1, by omega, by omega, by go_num, HA1, HB2.out⟩
      case measure => simp [intOf]; omega

set_option maxRecDepth 100000 in
set_option maxHeartbeats 4000000 in
theorem implFrs {B0 g n : Nat} {ys : List Fr} {ds : List FrD} {w : World} (hT : Frs B0 g n ys w) (hd : ys.map Fr.d = ds) (hs : n ≤ 1048576) :
    Calls Try.prog 156 #[.slice (some ⟨g, 0, none⟩) n n] w (RetV (.bool (pb (frsP ds))) w) := by
  have HT := Lib.hid hT; have HD := Lib.hid hd
  have HLD : Hid (ds.length = n) := Lib.hid (by rw [← hd, List.length_map]; exact hT.len)
  clear hT hd
  obtain ⟨r, hrr⟩ : ∃ r, pb (frsP ds) = r := ⟨_, rfl⟩
  rw [hrr]
  have HRR := Lib.hid hrr
  clear hrr
  by_cases hl : n ≤ 12
  case neg =>
    have HE : Hid (false = r) := Lib.hid (by rw [← HRR.out]; exact (pb_false (fun h => hl (by have := h.1; have := HLD.out; omega))).symm)
    have hl2 : 12 < (n : Int) := by omega
    clear hl
    go_enter Try.func156, Try.ntmps156
    go_wp2
    go_ret
    exact ⟨retb HE.out, Below.refl _ _⟩
  case pos =>
  have hl2 : (n : Int) ≤ 12 := by omega
  go_enter Try.func156, Try.ntmps156
  go_wp2
  go_loopw [10] (fun i wr => ∃ k : Nat, k ≤ n ∧ i = .int .i64 k ∧ Hid (∀ j, j < k → frnB ds j = true) ∧ Below w.heap.size w wr) (fun i _ => n - (intOf i).toNat)
  case atStart => exact ⟨0, Nat.zero_le _, rfl, Lib.hid (fun j hj => by omega), Below.refl _ _⟩
  case round =>
    obtain ⟨k, hk, rfl, HA, hb0⟩ := hrel
    have HBW := Lib.hid hb0
    clear hb0
    by_cases hlt : k < n
    case neg =>
      have HE : Hid (true = r) := Lib.hid (by rw [← HRR.out]; exact (pb_true ⟨by have := HLD.out; omega, fun j hj => HA.out j (by have := HLD.out; omega)⟩).symm)
      go_wp2
      go_ret
      exact ⟨retb HE.out, HBW.out⟩
    case pos =>
    have hky : k < ys.length := by have := HT.out.len; omega
    obtain ⟨y, hy⟩ : ∃ y, ys[k]'hky = y := ⟨_, rfl⟩
    obtain ⟨hg, f0, f1, f2⟩ := (HT.out.moved HBW.out).rd.frc hky
    rw [Nat.zero_add, hy] at f0 f1 f2
    have HDK := Lib.hid (frn_at HD.out hky hy)
    have hyy := (HT.out.at_ ys[k] (List.getElem_mem hky))
    rw [hy] at hyy
    obtain ⟨p0, p1, A, mm, c, zs⟩ := y
    obtain ⟨hyn, hys, hyr⟩ := hyy
    simp only at f0 f1 f2 hyn hys hyr
    have HFB : Hid (frnB ds k = frB p0 p1 zs) := Lib.hid (by unfold frnB; rw [HDK.out]; rfl)
    obtain ⟨b, hb⟩ : ∃ b, frB p0 p1 zs = b := ⟨_, rfl⟩
    rw [hb] at HFB
    have hbo := HBW.out.alloc HBW.out.size (Obj.cells #[.int .i64 p0, .int .i64 p1, .slice A mm c] 199)
    have HBO := Lib.hid hbo
    have CG := Lib.hid (iFrV p0 p1 A mm c zs _ hyn hys (hyr.moved hbo))
    rw [hb] at CG
    clear hb hy hyn hyr hbo
    go_wp2_with fail
    refine CG.out.mono ?_
    rintro e w2 ⟨rfl, hb2⟩
    have HB2 := Lib.hid (HBO.out.trans (hb2.mono HBO.out.size))
    clear hb2 f0 f1 f2
    cases b
    case false =>
      have HE : Hid (false = r) := Lib.hid (by rw [← HRR.out]; exact (pb_false (fun h => by have h9 := h.2 k (by have := HLD.out; omega); rw [HFB.out] at h9; cases h9)).symm)
      go_wp2
      go_ret
      exact ⟨retb HE.out, HB2.out⟩
    case true =>
      have HA1 : Hid (∀ j, j < k + 1 → frnB ds j = true) := Lib.hid (fun j hj => by
        rcases Nat.lt_or_ge j k with hj' | hj'
        · exact HA.out j hj'
        · obtain rfl : j = k := by omega
          exact HFB.out)
      go_wp2
      go_roundw
      case rel => exact ⟨k + 1, by omega, by go_num, HA1, HB2.out⟩
      case measure => simp [intOf]; omega

set_option maxRecDepth 100000 in
set_option maxHeartbeats 4000000 in
theorem specCG {B0 g n : Nat} {ys : List Fr} {ds : List FrD} {w : World} (hT : Frs B0 g n ys w) (hd : ys.map Fr.d = ds) (hs : n ≤ 1048576) :
    Calls Try.prog 88 #[.slice (some ⟨g, 0, none⟩) n n] w (IntsP (cgL ds) (cgB ds) w) := by
  have HT := Lib.hid hT; have HD := Lib.hid hd
  have HLD : Hid (ds.length = n) := Lib.hid (by rw [← hd, List.length_map]; exact hT.len)
  clear hT hd
  obtain ⟨RL, hRL⟩ : ∃ r, cgL ds = r := ⟨_, rfl⟩
  obtain ⟨RB, hRB⟩ : ∃ r, cgB ds = r := ⟨_, rfl⟩
  rw [hRL, hRB]
  have HNO : Hid (¬ frsP ds → RL = [] ∧ RB = false) := Lib.hid (fun e => by rw [← hRL, ← hRB]; exact cg_no e)
  have HYES : Hid (frsP ds → RL = cgK ds ds.length ∧ RB = true) := Lib.hid (fun e => by rw [← hRL, ← hRB]; exact cg_yes e)
  clear hRL hRB
  go_enter Try.func88, Try.ntmps88
  go_wp2_with fail
  have HB0 := Lib.hid ((Below.refl w.heap.size w).alloc (Nat.le_refl _) (Obj.cells #[] 3))
  have HO0 : Hid ((w.alloc (Obj.cells #[] 3)).ownsRow w.heap.size 3 1 (.slice (some ⟨w.heap.size, 0, none⟩) 0 0) 0 []) := Lib.hid (World.ownsRow_lit (base := w.heap.size) (e := 3) (size := 1) w #[] 0 (Nat.le_refl _) (by unfold maxLen; omega) rfl)
  have CG := Lib.hid (specFrs (HT.out.moved HB0.out) HD.out hs)
  obtain ⟨b, hb⟩ : ∃ b, pb (frsP ds) = b := ⟨_, rfl⟩
  rw [hb] at CG
  have HPB := Lib.hid hb
  clear hb
  refine CG.out.mono ?_
  rintro e w1 ⟨rfl, hb1⟩
  have HB1 := Lib.hid (HB0.out.trans (hb1.mono HB0.out.size))
  have HO1 := Lib.hid (ownB HO0.out hb1)
  clear hb1
  cases b
  case false =>
    have HNOB := Lib.hid (HNO.out (fun hp => by have := pb_true hp; rw [HPB.out] at this; cases this))
    obtain ⟨rfl, rfl⟩ := HNOB.out
    go_wp2
    go_ret2
    exact ⟨_, 0, _, rfl, Lib.hid rfl, HO1.out, HB1.out⟩
  case true =>
  have HPL : Hid (frsP ds) := Lib.hid (of_pb HPB.out)
  have HYS := Lib.hid (HYES.out HPL.out)
  have hn12 : n ≤ 12 := by have := HPL.out.1; have := HLD.out; omega
  go_wp2
  go_loopw [4, 5] (fun v i wr => ∃ (k : Nat) (A1 : Option Addr) (m1 c1' : Nat), 1 ≤ k ∧ (k ≤ n ∨ k = 1) ∧ i = .int .i64 k ∧ v = .slice A1 m1 c1' ∧ m1 ≤ k ∧ Hid (m1 = (cgK ds k).length) ∧ Hid (wr.ownsRow w.heap.size 3 1 (.slice A1 m1 c1') m1 ((cgK ds k).map (Value.int .i64))) ∧ Below w.heap.size w1 wr) (fun _ i _ => n - (intOf i).toNat)
  case atStart => exact ⟨1, _, 0, _, Nat.le_refl _, .inr rfl, rfl, rfl, by omega, Lib.hid (by rw [cg_one]; rfl), Lib.hid (by rw [cg_one]; exact HO1.out), Below.refl _ _⟩
  case round =>
    obtain ⟨k, A1, m1, c1', hk0, hk, rfl, rfl, hmk, HMK, HOW, hb⟩ := hrel
    have HBW := Lib.hid (HB1.out.trans (hb.mono (Nat.le_refl _)))
    have HSZ : Hid (w.heap.size ≤ wr.heap.size) := Lib.hid (Nat.le_trans HB1.out.size hb.size)
    by_cases hlt : k < n
    case neg =>
      have HRL : Hid (RL = cgK ds k) := Lib.hid (by
        rw [HYS.out.1, HLD.out]
        rcases hk with h | h
        · rw [show n = k by omega]
        · subst h
          by_cases hn0 : n = 0
          · rw [hn0, cg_one]; rfl
          · rw [show n = 1 by omega])
      clear hk
      go_wp2
      go_ret2
      rw [HRL.out, HYS.out.2]
      exact ⟨A1, m1, c1', rfl, HMK, own_base HOW.out (Nat.le_refl _), HBW.out⟩
    case pos =>
    obtain ⟨j, hj⟩ : ∃ j, k = j + 1 := ⟨k - 1, by omega⟩
    have ew : IntKind.i64.wrap ((k : Int) - 1) = (j : Int) := pred_wrap_ k j hj (by omega)
    have hky : k < ys.length := by have := HT.out.len; omega
    have hjy : j < ys.length := by omega
    obtain ⟨hg, f0, f1, f2⟩ := (HT.out.moved HBW.out).rd.frc hky
    obtain ⟨hg', g0, g1, g2⟩ := (HT.out.moved HBW.out).rd.frc hjy
    rw [Nat.zero_add] at f0 g0
    have h1 := frn_at HD.out hky rfl
    have h2 := frn_at HD.out hjy rfl
    have hB := HPL.out.2 j (by have := HLD.out; omega)
    unfold frnB at hB
    have hp := frB_p0 hB
    obtain ⟨a, ha⟩ : ∃ a, ys[k].p0 = a := ⟨_, rfl⟩
    obtain ⟨b, hbb⟩ : ∃ b, ys[j].p0 = b := ⟨_, rfl⟩
    have h3 : (frn ds k).p0 = a := by rw [h1]; exact ha
    have h4 : (frn ds j).p0 = b := by rw [h2]; exact hbb
    rw [h4] at hp
    rw [ha] at f0
    rw [hbb] at g0
    have e1 : IntKind.i64.wrap (b + 1) = b + 1 := IntWalk.i64_in _ (by omega)
    have e2 : (b + 1).tmod 256 = (b + 1) % 256 := Int.tmod_eq_emod_of_nonneg (by omega)
    obtain ⟨r, hr⟩ : ∃ r, (b + 1) % 256 = r := ⟨_, rfl⟩
    have hr0 : 0 ≤ r := by omega
    have hr1 : r < 256 := by omega
    have e3 : IntKind.i64.wrap r = r := IntWalk.i64_in _ (by omega)
    rw [hr] at e2
    have HQE : Hid (cgQ ds k = decide (a ≠ r)) := Lib.hid (by rw [hj]; rw [hj] at h3; exact cg_eq h3 h4 hr)
    have hjn : j < n := by omega
    clear f1 f2 g1 g2 hg' hB hp h1 h2 h3 h4 ha hbb hr hky hjy hj hk
    by_cases har : a = r
    case pos =>
      have HTO := Lib.hid (cg_out (HQE.out.trans (decide_eq_false (fun h => h har))))
      have HMK1 : Hid (m1 = (cgK ds (k + 1)).length) := Lib.hid (by rw [HTO.out]; exact HMK.out)
      have HOW1 : Hid (wr.ownsRow w.heap.size 3 1 (.slice A1 m1 c1') m1 ((cgK ds (k + 1)).map (Value.int .i64))) := Lib.hid (by rw [HTO.out]; exact HOW.out)
      subst har
      go_wp2
      go_quiet (fail)
      go_wp2
      go_roundw
      case rel => exact ⟨k + 1, A1, m1, c1', by omega, .inl (by omega), by go_num, rfl, by omega, HMK1, Lib.hid (own_heapW rfl HOW1.out), drewN_below hb _⟩
      case measure => simp [intOf]; omega
    case neg =>
      have HTO := Lib.hid (cg_in (HQE.out.trans (decide_eq_true har)))
      have p1 : (a == r) = false := by simpa using har
      have p2 : (a != r) = true := by simpa using har
      have p3 : decide (a = r) = false := decide_eq_false har
      go_wp2
      go_quiet (fail)
      obtain ⟨wd, hwd⟩ : ∃ wd, wr.drewN nq = wd := ⟨_, rfl⟩
      have HBD : Hid (Below w.heap.size w1 wd) := Lib.hid (by rw [← hwd]; exact drewN_below hb _)
      have HOD : Hid (wd.ownsRow w.heap.size 3 1 (.slice A1 m1 c1') m1 ((cgK ds k).map (Value.int .i64))) := Lib.hid (by rw [← hwd]; exact own_heapW rfl HOW.out)
      have HSD : Hid (w.heap.size ≤ wd.heap.size) := Lib.hid (Nat.le_trans HB1.out.size HBD.out.size)
      rw [hwd]
      clear hwd hb f0 g0 ew e1 e2 e3
      go_wp2_with (at_builtin; refine wp_app rfl (.tmp 31) (.tmp 33) 39 3 rfl w.heap.size Try.underlying39 Try.inf_int rfl (by decide) (by decide) _ m1 _ rfl (HOD.out.alloc _) _ _ [.int .i64 (k : Int)] rfl rfl (news1 (new_at_ _ _ _ _ rfl)) (news_int _) (by omega) (by have := HSD.out; simp; omega) ?_)
      intro A2 d2 N2 w5 hN2 hown2 hgrow2 hloc2
      subst hN2
      have hB3 : Below w.heap.size w1 w5 := (HBD.out.alloc HSD.out _).grown hgrow2 (by have := HSD.out; simp; omega) (fun g hg => (HOD.out.lt g hg).1)
      have HOW3 : Hid (w5.ownsRow w.heap.size 3 1 (.slice A2 (m1 + 1) d2) (m1 + 1) ((cgK ds (k + 1)).map (Value.int .i64))) := Lib.hid (by rw [HTO.out, List.map_append]; exact hown2)
      have HMK1 : Hid (m1 + 1 = (cgK ds (k + 1)).length) := Lib.hid (by rw [HTO.out, List.length_append, ← HMK.out]; rfl)
      clear hown2 hgrow2 hloc2
      obtain ⟨m2, hm2⟩ : ∃ m2, m1 + 1 = m2 := ⟨_, rfl⟩
      rw [hm2] at HOW3 HMK1 ⊢
      have hm3 : m2 ≤ k + 1 := by omega
      clear hm2
      go_wp2
      go_roundw
      case rel => exact ⟨k + 1, A2, m2, d2, by omega, .inl (by omega), by go_num, rfl, hm3, HMK1, HOW3, hB3⟩
      case measure => simp [intOf]; omega

set_option maxRecDepth 100000 in
set_option maxHeartbeats 4000000 in
theorem implCG {B0 g n : Nat} {ys : List Fr} {ds : List FrD} {w : World} (hT : Frs B0 g n ys w) (hd : ys.map Fr.d = ds) (hs : n ≤ 1048576) :
    Calls Try.prog 90 #[.slice (some ⟨g, 0, none⟩) n n] w (IntsP (cgL ds) (cgB ds) w) := by
  have HT := Lib.hid hT; have HD := Lib.hid hd
  have HLD : Hid (ds.length = n) := Lib.hid (by rw [← hd, List.length_map]; exact hT.len)
  clear hT hd
  obtain ⟨RL, hRL⟩ : ∃ r, cgL ds = r := ⟨_, rfl⟩
  obtain ⟨RB, hRB⟩ : ∃ r, cgB ds = r := ⟨_, rfl⟩
  rw [hRL, hRB]
  have HNO : Hid (¬ frsP ds → RL = [] ∧ RB = false) := Lib.hid (fun e => by rw [← hRL, ← hRB]; exact cg_no e)
  have HYES : Hid (frsP ds → RL = cgK ds ds.length ∧ RB = true) := Lib.hid (fun e => by rw [← hRL, ← hRB]; exact cg_yes e)
  clear hRL hRB
  go_enter Try.func90, Try.ntmps90
  go_wp2_with fail
  have HB0 := Lib.hid (Below.refl w.heap.size w)
  have CG := Lib.hid (implFrs (HT.out.moved HB0.out) HD.out hs)
  obtain ⟨b, hb⟩ : ∃ b, pb (frsP ds) = b := ⟨_, rfl⟩
  rw [hb] at CG
  have HPB := Lib.hid hb
  clear hb
  refine CG.out.mono ?_
  rintro e w1 ⟨rfl, hb1⟩
  have HB1 := Lib.hid (HB0.out.trans (hb1.mono HB0.out.size))
  clear hb1
  cases b
  case false =>
    have HNOB := Lib.hid (HNO.out (fun hp => by have := pb_true hp; rw [HPB.out] at this; cases this))
    go_wp2
    go_ret2
    exact ints_no HNOB.out HB1.out
  case true =>
  have HPL : Hid (frsP ds) := Lib.hid (of_pb HPB.out)
  have HYS := Lib.hid (HYES.out HPL.out)
  have hn12 : n ≤ 12 := by have := HPL.out.1; have := HLD.out; omega
  go_wp2
  go_loopw [4, 5] (fun v i wr => ∃ (k : Nat) (A1 : Option Addr) (m1 c1' : Nat), 1 ≤ k ∧ (k ≤ n ∨ k = 1) ∧ i = .int .i64 k ∧ v = .slice A1 m1 c1' ∧ m1 ≤ k ∧ Hid (m1 = (cgK ds k).length) ∧ Hid (wr.ownsRow w1.heap.size 3 1 (.slice A1 m1 c1') m1 ((cgK ds k).map (Value.int .i64))) ∧ Below w1.heap.size w1 wr) (fun _ i _ => n - (intOf i).toNat)
  case atStart => exact ⟨1, none, 0, _, Nat.le_refl _, .inr rfl, rfl, rfl, by omega, Lib.hid (by rw [cg_one]; rfl), Lib.hid (by rw [cg_one]; exact World.ownsRow_nil _ _ _ _), Below.refl _ _⟩
  case round =>
    obtain ⟨k, A1, m1, c1', hk0, hk, rfl, rfl, hmk, HMK, HOW, hb⟩ := hrel
    have HBW := Lib.hid (HB1.out.trans (hb.mono HB1.out.size))
    have HSZ : Hid (w1.heap.size ≤ wr.heap.size) := Lib.hid (Nat.le_trans (Nat.le_refl _) hb.size)
    by_cases hlt : k < n
    case neg =>
      have HRL : Hid (RL = cgK ds k) := Lib.hid (by
        rw [HYS.out.1, HLD.out]
        rcases hk with h | h
        · rw [show n = k by omega]
        · subst h
          by_cases hn0 : n = 0
          · rw [hn0, cg_one]; rfl
          · rw [show n = 1 by omega])
      clear hk
      go_wp2
      go_ret2
      rw [HRL.out, HYS.out.2]
      exact ⟨A1, m1, c1', rfl, HMK, own_base HOW.out HB1.out.size, HBW.out⟩
    case pos =>
    obtain ⟨j, hj⟩ : ∃ j, k = j + 1 := ⟨k - 1, by omega⟩
    have ew : IntKind.i64.wrap ((k : Int) - 1) = (j : Int) := pred_wrap_ k j hj (by omega)
    have hky : k < ys.length := by have := HT.out.len; omega
    have hjy : j < ys.length := by omega
    obtain ⟨hg, f0, f1, f2⟩ := (HT.out.moved HBW.out).rd.frc hky
    obtain ⟨hg', g0, g1, g2⟩ := (HT.out.moved HBW.out).rd.frc hjy
    rw [Nat.zero_add] at f0 g0
    have h1 := frn_at HD.out hky rfl
    have h2 := frn_at HD.out hjy rfl
    have hB := HPL.out.2 j (by have := HLD.out; omega)
    unfold frnB at hB
    have hp := frB_p0 hB
    obtain ⟨a, ha⟩ : ∃ a, ys[k].p0 = a := ⟨_, rfl⟩
    obtain ⟨b, hbb⟩ : ∃ b, ys[j].p0 = b := ⟨_, rfl⟩
    have h3 : (frn ds k).p0 = a := by rw [h1]; exact ha
    have h4 : (frn ds j).p0 = b := by rw [h2]; exact hbb
    rw [h4] at hp
    rw [ha] at f0
    rw [hbb] at g0
    have e1 : IntKind.i64.wrap (b + 1) = b + 1 := IntWalk.i64_in _ (by omega)
    have e2 : (b + 1).tmod 256 = (b + 1) % 256 := Int.tmod_eq_emod_of_nonneg (by omega)
    obtain ⟨r, hr⟩ : ∃ r, (b + 1) % 256 = r := ⟨_, rfl⟩
    have hr0 : 0 ≤ r := by omega
    have hr1 : r < 256 := by omega
    have e3 : IntKind.i64.wrap r = r := IntWalk.i64_in _ (by omega)
    rw [hr] at e2
    have HQE : Hid (cgQ ds k = decide (a ≠ r)) := Lib.hid (by rw [hj]; rw [hj] at h3; exact cg_eq h3 h4 hr)
    have hjn : j < n := by omega
    clear f1 f2 g1 g2 hg' hB hp h1 h2 h3 h4 ha hbb hr hky hjy hj hk
    by_cases har : a = r
    case pos =>
      have HTO := Lib.hid (cg_out (HQE.out.trans (decide_eq_false (fun h => h har))))
      have HMK1 : Hid (m1 = (cgK ds (k + 1)).length) := Lib.hid (by rw [HTO.out]; exact HMK.out)
      have HOW1 : Hid (wr.ownsRow w1.heap.size 3 1 (.slice A1 m1 c1') m1 ((cgK ds (k + 1)).map (Value.int .i64))) := Lib.hid (by rw [HTO.out]; exact HOW.out)
      subst har
      go_wp2
      go_quiet (fail)
      go_wp2
      go_roundw
      case rel => exact ⟨k + 1, A1, m1, c1', by omega, .inl (by omega), by go_num, rfl, by omega, HMK1, Lib.hid (own_heapW rfl HOW1.out), drewN_below hb _⟩
      case measure => simp [intOf]; omega
    case neg =>
      have HTO := Lib.hid (cg_in (HQE.out.trans (decide_eq_true har)))
      have p1 : (a == r) = false := by simpa using har
      have p2 : (a != r) = true := by simpa using har
      have p3 : decide (a = r) = false := decide_eq_false har
      go_wp2
      go_quiet (fail)
      obtain ⟨wd, hwd⟩ : ∃ wd, wr.drewN nq = wd := ⟨_, rfl⟩
      have HBD : Hid (Below w1.heap.size w1 wd) := Lib.hid (by rw [← hwd]; exact drewN_below hb _)
      have HOD : Hid (wd.ownsRow w1.heap.size 3 1 (.slice A1 m1 c1') m1 ((cgK ds k).map (Value.int .i64))) := Lib.hid (by rw [← hwd]; exact own_heapW rfl HOW.out)
      have HSD : Hid (w1.heap.size ≤ wd.heap.size) := Lib.hid (Nat.le_trans (Nat.le_refl _) HBD.out.size)
      rw [hwd]
      clear hwd hb f0 g0 ew e1 e2 e3
      go_wp2_with (at_builtin; refine wp_app rfl (.tmp 29) (.tmp 31) 39 3 rfl w1.heap.size Try.underlying39 Try.inf_int rfl (by decide) (by decide) _ m1 _ rfl (HOD.out.alloc _) _ _ [.int .i64 (k : Int)] rfl rfl (news1 (new_at_ _ _ _ _ rfl)) (news_int _) (by omega) (by have := HSD.out; simp; omega) ?_)
      intro A2 d2 N2 w5 hN2 hown2 hgrow2 hloc2
      subst hN2
      have hB3 : Below w1.heap.size w1 w5 := (HBD.out.alloc HSD.out _).grown hgrow2 (by have := HSD.out; simp; omega) (fun g hg => (HOD.out.lt g hg).1)
      have HOW3 : Hid (w5.ownsRow w1.heap.size 3 1 (.slice A2 (m1 + 1) d2) (m1 + 1) ((cgK ds (k + 1)).map (Value.int .i64))) := Lib.hid (by rw [HTO.out, List.map_append]; exact hown2)
      have HMK1 : Hid (m1 + 1 = (cgK ds (k + 1)).length) := Lib.hid (by rw [HTO.out, List.length_append, ← HMK.out]; rfl)
      clear hown2 hgrow2 hloc2
      obtain ⟨m2, hm2⟩ : ∃ m2, m1 + 1 = m2 := ⟨_, rfl⟩
      rw [hm2] at HOW3 HMK1 ⊢
      have hm3 : m2 ≤ k + 1 := by omega
      clear hm2
      go_wp2
      go_roundw
      case rel => exact ⟨k + 1, A2, m2, d2, by omega, .inl (by omega), by go_num, rfl, hm3, HMK1, HOW3, hB3⟩
      case measure => simp [intOf]; omega
end Go.Proofs.Ytdaopbdjbpopiaa
