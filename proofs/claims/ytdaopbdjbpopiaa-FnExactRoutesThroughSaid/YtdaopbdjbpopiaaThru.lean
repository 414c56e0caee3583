/- Routes: those that use a fiber of a group: contracts of RoutesThrough, both sides. No condition but those typed. -/
import Derived.Test.YtdaopbdjbpopiaaReg
import Derived.Test.YtdaopbdjbpopiaaNeRo
import Derived.Test.YtdaopbdjbpopiaaSet
import Derived.Test.YtdaopbdjbpopiaaPlanS
namespace Go.Proofs.Ytdaopbdjbpopiaa
open Go.ChangeShapes Go.WideShapes Go.ChangeAt Go.RowKit

def ron (ds : List RoD) (k : Nat) : RoD := ds.getD k ⟨0, []⟩
theorem ron_at {ys : List Ro} {ds : List RoD} (hd : ys.map Ro.d = ds) {k : Nat} (hk : k < ys.length) {y : Ro} (hy : ys[k] = y) : ron ds k = y.d := by
  subst hd
  unfold ron
  rw [List.getD_eq_getElem?_getD, List.getElem?_map, List.getElem?_eq_getElem hk, hy]; rfl
def thQ (ds : List RoD) (ks : List Int) (k : Nat) : Bool := (ron ds k).zs.any fun f => decide (f ∈ ks)
def thK (ds : List RoD) (ks : List Int) : Nat → List Int
  | 0 => []
  | k + 1 => if thQ ds ks k then thK ds ks k ++ [(k : Int)] else thK ds ks k
theorem th_in {ds : List RoD} {ks : List Int} {k : Nat} (h : thQ ds ks k = true) : thK ds ks (k + 1) = thK ds ks k ++ [(k : Int)] := by rw [thK, h]; rfl
theorem th_out {ds : List RoD} {ks : List Int} {k : Nat} (h : thQ ds ks k = false) : thK ds ks (k + 1) = thK ds ks k := by rw [thK, h]; rfl
theorem th_len (ds : List RoD) (ks : List Int) : ∀ k, (thK ds ks k).length ≤ k
  | 0 => Nat.le_refl _
  | k + 1 => by
    have := th_len ds ks k
    rw [thK]
    split
    · rw [List.length_append]; exact Nat.succ_le_succ this
    · exact Nat.le_succ_of_le this
noncomputable def thrP (ss : List ByteArray) (fs : List Q4) (ds : List RoD) (ks : List Int) : Prop := netP ss fs ∧ ds.length ≤ 200 ∧ risB ks (fs.length : Int) = true ∧ ∀ k, k < ds.length → routeB ss fs (ron ds k).p0 (ron ds k).zs = true
noncomputable def thB (ss : List ByteArray) (fs : List Q4) (ds : List RoD) (ks : List Int) : Bool := pb (thrP ss fs ds ks)
noncomputable def thL (ss : List ByteArray) (fs : List Q4) (ds : List RoD) (ks : List Int) : List Int := if thB ss fs ds ks then thK ds ks ds.length else []
theorem th_no {ss : List ByteArray} {fs : List Q4} {ds : List RoD} {ks : List Int} (e : ¬ thrP ss fs ds ks) : thL ss fs ds ks = [] ∧ thB ss fs ds ks = false := by
  have hb : thB ss fs ds ks = false := pb_false e
  exact ⟨by unfold thL; rw [hb]; rfl, hb⟩
theorem th_yes {ss : List ByteArray} {fs : List Q4} {ds : List RoD} {ks : List Int} (e : thrP ss fs ds ks) : thL ss fs ds ks = thK ds ks ds.length ∧ thB ss fs ds ks = true := by
  have hb : thB ss fs ds ks = true := pb_true e
  exact ⟨by unfold thL; rw [hb]; rfl, hb⟩
theorem thL_len (ss : List ByteArray) (fs : List Q4) (ds : List RoD) (ks : List Int) : (thL ss fs ds ks).length ≤ ds.length := by
  unfold thL
  split
  · exact th_len _ _ _
  · simp
theorem maskT_lt {zs : List Int} : ∀ {k : Nat}, (∀ j, j < k → 0 ≤ nth zs j ∧ nth zs j < 20) → maskN zs k < 2 ^ 20
  | 0, _ => Nat.two_pow_pos 20
  | k + 1, h => by
    unfold maskN
    have h0 := h k (by omega)
    exact Nat.or_lt_two_pow (maskT_lt (fun j hj => h j (by omega))) (Nat.pow_lt_pow_right (by decide) (by omega))
theorem and_i64t (a b : Nat) (ha : a < 2 ^ 62) (hb : b < 2 ^ 62) : bits .and .i64 (a : Int) (b : Int) = ((a &&& b : Nat) : Int) := by
  have wr : ∀ n : Int, 0 ≤ n → n < 2 ^ 62 → IntKind.i64.wrap n = n := by intro n h0 h1; rw [IntKind.wrap_i64]; omega
  exact (bits_nat .i64 62 (by decide) wr a b ha hb).1
/-- two masks meet where the sets do. -/
theorem mask_meet {zs ks : List Int} {n m : Nat} (hn : zs.length = n) (hm : ks.length = m) (h1 : ∀ k, k < n → 0 ≤ nth zs k ∧ nth zs k < 20) (h2 : ∀ k, k < m → 0 ≤ nth ks k ∧ nth ks k < 20) :
    (zs.any fun f => decide (f ∈ ks)) = decide ((maskN zs n &&& maskN ks m) ≠ 0) := by
  subst hn hm
  have t1 := fun i => mask_test (zs := zs) (i := i) (k := zs.length) (fun j hj => (h1 j hj).1)
  have t2 := fun i => mask_test (zs := ks) (i := i) (k := ks.length) (fun j hj => (h2 j hj).1)
  by_cases hex : ∃ f, f ∈ zs ∧ f ∈ ks
  · obtain ⟨f, hf1, hf2⟩ := hex
    rw [List.any_eq_true.2 ⟨f, hf1, decide_eq_true hf2⟩]
    refine (decide_eq_true ?_).symm
    obtain ⟨j, hj, e1⟩ := mem_nth.1 hf1
    obtain ⟨j2, hj2, e2⟩ := mem_nth.1 hf2
    have hf0 := (h1 j hj).1
    rw [e1] at hf0
    obtain ⟨i, rfl⟩ : ∃ i : Nat, f = i := ⟨f.toNat, by omega⟩
    intro h0
    have h3 : (maskN zs zs.length &&& maskN ks ks.length).testBit i = true := by
      rw [Nat.testBit_and, t1, t2, decide_eq_true ⟨j, hj, e1⟩, decide_eq_true ⟨j2, hj2, e2⟩]; rfl
    rw [h0, Nat.zero_testBit] at h3
    exact absurd h3 (by decide)
  · have hany : (zs.any fun f => decide (f ∈ ks)) = false := by
      rw [List.any_eq_false]
      intro f hf hc
      exact hex ⟨f, hf, of_decide_eq_true hc⟩
    rw [hany]
    refine (decide_eq_false ?_).symm
    intro hc
    refine hc (Nat.eq_of_testBit_eq fun i => ?_)
    rw [Nat.zero_testBit, Nat.testBit_and, t1, t2]
    by_cases ha : ∃ j, j < zs.length ∧ nth zs j = (i : Int)
    · by_cases hb : ∃ j, j < ks.length ∧ nth ks j = (i : Int)
      · exact absurd ⟨(i : Int), mem_nth.2 ha, mem_nth.2 hb⟩ hex
      · rw [decide_eq_false hb, Bool.and_false]
    · rw [decide_eq_false ha, Bool.false_and]
def Ro.rt (y : Ro) : Rt := ⟨y.p0, y.A, y.n, y.c, y.zs⟩
theorem rt_cells (ys : List Ro) : (ys.map Ro.rt).flatMap Rt.cells = ys.flatMap Ro.cells := by rw [List.flatMap_map]; rfl

set_option maxRecDepth 100000 in
set_option maxHeartbeats 8000000 in
theorem implTH {g1 g2 n1 n2 c1 c2 : Nat} {ss : List ByteArray} {fs : List Q4} {w : World} (h : NetAt g1 g2 n1 n2 c1 c2 ss fs w) {B0 g n : Nat} {ys : List Ro} {ds : List RoD} (hT : Ros B0 g n ys w) (hd : ys.map Ro.d = ds) (hs : n ≤ 1048576) {K : Option Addr} {m c3 : Nat} {ks : List Int} (hm : ks.length = m) (hrk : Rd w w.heap.size K (ks.map (Value.int .i64))) (hxk : m ≤ 1048576) :
    Calls Try.prog 40 #[.agg #[.slice (some ⟨g1, 0, none⟩) n1 c1, .slice (some ⟨g2, 0, none⟩) n2 c2], .slice (some ⟨g, 0, none⟩) n n, .slice K m c3] w (IntsP (thL ss fs ds ks) (thB ss fs ds ks) w) := by
  have HL1 := Lib.hid h.ln1
  have HL2 := Lib.hid h.ln2
  have hs2 := h.sm2
  have HNT := Lib.hid h; have HT := Lib.hid hT; have HD := Lib.hid hd; have HM := Lib.hid hm; have HRK := Lib.hid hrk
  have HLD : Hid (ds.length = n) := Lib.hid (by rw [← hd, List.length_map]; exact hT.len)
  clear h hT hd hm hrk
  obtain ⟨RL, hRL⟩ : ∃ r, thL ss fs ds ks = r := ⟨_, rfl⟩
  obtain ⟨RB, hRB⟩ : ∃ r, thB ss fs ds ks = r := ⟨_, rfl⟩
  rw [hRL, hRB]
  have HNO : Hid (¬ thrP ss fs ds ks → RL = [] ∧ RB = false) := Lib.hid (fun e => by rw [← hRL, ← hRB]; exact th_no e)
  have HYES : Hid (thrP ss fs ds ks → RL = thK ds ks ds.length ∧ RB = true) := Lib.hid (fun e => by rw [← hRL, ← hRB]; exact th_yes e)
  clear hRL hRB
  by_cases hl : n ≤ 200
  case neg =>
    have HNOB := Lib.hid (HNO.out (fun hp => hl (by have := hp.2.1; have := HLD.out; omega)))
    have hl2 : 200 < (n : Int) := by omega
    have HBN := Lib.hid ((Below.refl w.heap.size w).alloc (Nat.le_refl _) (Obj.cells #[.slice (some ⟨g1, 0, none⟩) n1 c1, .slice (some ⟨g2, 0, none⟩) n2 c2] 32))
    clear hl
    go_enter Try.func40, Try.ntmps40
    go_wp2
    go_ret2
    exact ints_no HNOB.out HBN.out
  case pos =>
  have hl2 : (n : Int) ≤ 200 := by omega
  go_enter Try.func40, Try.ntmps40
  go_wp2_with fail
  obtain ⟨W0, hW0⟩ : ∃ W0, w.alloc (Obj.cells #[.slice (some ⟨g1, 0, none⟩) n1 c1, .slice (some ⟨g2, 0, none⟩) n2 c2] 32) = W0 := ⟨_, rfl⟩
  have hb0 : Below w.heap.size w W0 := by rw [← hW0]; exact (Below.refl _ _).alloc (Nat.le_refl _) _
  have hk0 : W0.cell? ⟨w.heap.size, 0, none⟩ = some (.slice (some ⟨g1, 0, none⟩) n1 c1) := by rw [← hW0]; simp [go_sem]
  have hk1 : W0.cell? ⟨w.heap.size, 1, none⟩ = some (.slice (some ⟨g2, 0, none⟩) n2 c2) := by rw [← hW0]; simp [go_sem]
  have hz0 : w.heap.size  < W0.heap.size := by rw [← hW0]; simp
  have HB0 := Lib.hid hb0; have HK0 := Lib.hid hk0; have HK1 := Lib.hid hk1; have HZB := Lib.hid hz0
  rw [hW0]
  clear hW0 hb0
  have CR := Lib.hid (isSet_ K m c3 ks (n2 : Int) W0 HM.out hxk (HRK.out.moved HB0.out))
  obtain ⟨b, hb⟩ : ∃ b, risB ks (n2 : Int) = b := ⟨_, rfl⟩
  rw [hb] at CR
  have HRB : Hid (risB ks (fs.length : Int) = b) := Lib.hid (by rw [HL2.out]; exact hb)
  clear hb
  refine CR.out.mono ?_
  rintro e w' ⟨rfl, rfl⟩
  cases b
  case false =>
    have HNOB := Lib.hid (HNO.out (fun hp => by have := hp.2.2.1; rw [HRB.out] at this; cases this))
    go_wp2
    go_ret2
    exact ints_no HNOB.out HB0.out
  case true =>
  by_cases hv : netP ss fs
  case neg =>
    have HNOB := Lib.hid (HNO.out (fun hp => hv hp.1))
    have CW := Lib.hid (walks_no (HNT.out.moved HB0.out) hv (.slice (some ⟨g, 0, none⟩) n n))
    clear hv
    go_wp2_with fail
    refine CW.out.mono ?_
    rintro e w1 ⟨rfl, hb1⟩
    have HB1 := Lib.hid (HB0.out.trans (hb1.mono HB0.out.size))
    clear hb1
    go_wp2
    go_ret2
    exact ints_no HNOB.out HB1.out
  case pos =>
  have hnf : n2 ≤ 14 := by have := hv.2.1; have := HL2.out; omega
  have HV := Lib.hid hv
  have CW := Lib.hid (walks_ (rs := ys.map Ro.rt) (cr := n) (HNT.out.moved HB0.out) hv (by rw [List.length_map]; exact HT.out.len) hs (by rw [rt_cells]; exact (HT.out.moved HB0.out).rd) (fun r hr => by
    obtain ⟨y, hy, rfl⟩ := List.mem_map.1 hr
    exact (HT.out.moved HB0.out).at_ y hy))
  clear hv
  go_wp2_with fail
  refine CW.out.mono ?_
  rintro e w1 ⟨hb1, h1⟩
  have HB1 := Lib.hid (HB0.out.trans (hb1.mono HB0.out.size))
  clear hb1 hk0 hk1 hz0
  rcases h1 with ⟨⟨i, hi, hno⟩, rfl⟩ | ⟨gw, gs, rfl, hgl, _, hall⟩
  · have HNOB := Lib.hid (HNO.out (fun hp => by
      have hi2 : i < ys.length := by simpa using hi
      have h9 := hp.2.2.2 i (by rw [HLD.out, ← HT.out.len]; exact hi2)
      rw [ron_at HD.out hi2 rfl] at h9
      obtain ⟨_, vs, h8⟩ := routeB_yes h9
      rw [List.getElem_map] at hno
      rw [HL1.out] at h8
      have h7 : routeN n1 fs ys[i].p0 ys[i].zs = none := hno
      rw [show ys[i].d.p0 = ys[i].p0 from rfl, show ys[i].d.zs = ys[i].zs from rfl, h7] at h8
      cases h8))
    clear hno hi
    go_wp2
    go_ret2
    exact ints_no HNOB.out HB1.out
  have HALL : Hid (∀ j (hj : j < ys.length), routeB ss fs ys[j].p0 ys[j].zs = true) := Lib.hid (fun j hj => by
    obtain ⟨vs, h8, _⟩ := hall j (by simpa using hj) (by rw [hgl]; simpa using hj)
    rw [List.getElem_map] at h8
    refine routeB_some HV.out (vs := vs) ?_
    rw [HL1.out]; exact h8)
  have HYS := Lib.hid (HYES.out ⟨HV.out, by have := HLD.out; omega, HRB.out, fun k hk => by
    have hk2 : k < ys.length := by have := HLD.out; have := HT.out.len; omega
    rw [ron_at HD.out hk2 rfl]; exact HALL.out k hk2⟩)
  have HKS : Hid (∀ k, k < m → 0 ≤ nth ks k ∧ nth ks k < 20) := Lib.hid (fun k hk => by
    have h9 := ris_all HRB.out k (by have := HM.out; omega)
    have := HL2.out
    exact ⟨h9.1, by omega⟩)
  obtain ⟨nw, hnw⟩ : ∃ nw, (ys.map Ro.rt).length = nw := ⟨_, rfl⟩
  rw [hnw] at hgl ⊢
  clear hgl hall hnw
  go_wp2
  go_loopw [10, 34] (fun v i wr => ∃ (k : Nat) (A1 : Option Addr) (m1 c1' : Nat), k ≤ n ∧ i = .int .i64 k ∧ v = .slice A1 m1 c1' ∧ m1 ≤ k ∧ Hid (m1 = (thK ds ks k).length) ∧ Hid (wr.ownsRow w1.heap.size 3 1 (.slice A1 m1 c1') m1 ((thK ds ks k).map (Value.int .i64))) ∧ Below w1.heap.size w1 wr) (fun _ i _ => n - (intOf i).toNat)
  case atStart => exact ⟨0, none, 0, 0, Nat.zero_le _, rfl, rfl, Nat.le_refl _, Lib.hid rfl, Lib.hid (World.ownsRow_nil _ _ _ _), Below.refl _ _⟩
  case round =>
    obtain ⟨k, A1, m1, c1', hk, rfl, rfl, hmk, HMK, HOW, hb⟩ := hrel
    have HBW := Lib.hid (HB1.out.trans (hb.mono HB1.out.size))
    have HBR := Lib.hid hb
    have hsz0 := hb.size
    clear hb
    by_cases hlt : k < n
    case neg =>
      have hkn : ds.length = k := by have := HLD.out; omega
      have HRL : Hid (RL = thK ds ks k) := Lib.hid (by rw [HYS.out.1, hkn])
      clear hkn
      go_wp2
      go_ret2
      rw [HRL.out, HYS.out.2]
      exact ⟨A1, m1, c1', rfl, HMK, own_base HOW.out HB1.out.size, HBW.out⟩
    case pos =>
    have hky : k < ys.length := by have := HT.out.len; omega
    obtain ⟨y, hy⟩ : ∃ y, ys[k]'hky = y := ⟨_, rfl⟩
    obtain ⟨hg, f0, f1⟩ := (HT.out.moved HBW.out).rd.roc hky
    rw [Nat.zero_add, hy] at f0 f1
    have HDK := Lib.hid (ron_at HD.out hky hy)
    have hyy := (HT.out.at_ ys[k] (List.getElem_mem hky))
    have hrb := HALL.out k hky
    rw [hy] at hyy hrb
    obtain ⟨p0, A, mm, c, zs⟩ := y
    obtain ⟨hyn, hys, hyr⟩ := hyy
    simp only at f0 f1 hyn hys hyr hrb
    have HYN := Lib.hid hyn
    obtain ⟨_, us, hus⟩ := routeB_yes hrb
    have HZS : Hid (∀ j, j < mm → 0 ≤ nth zs j ∧ nth zs j < 20) := Lib.hid (fun j hj => by
      have h9 := routeN_mem hus zs[j] (List.getElem_mem (by omega))
      rw [nth_eq (by omega)] at h9
      have := HL2.out
      exact ⟨h9.1, by omega⟩)
    have hbn := (HBR.out.alloc hsz0 (Obj.cells #[.int .i64 p0, .slice A mm c] 45))
    have hbo := HBW.out.alloc HBW.out.size (Obj.cells #[.int .i64 p0, .slice A mm c] 45)
    have CA := Lib.hid (maskOf_ A mm c zs _ hyn hys (hyr.moved hbo) HZS.out)
    have CB := Lib.hid (maskOf_ K m c3 ks _ HM.out hxk (HRK.out.moved hbo) HKS.out)
    have HBN := Lib.hid hbn
    have HON := Lib.hid (HOW.out.alloc (Obj.cells #[.int .i64 p0, .slice A mm c] 45))
    have HQE : Hid (thQ ds ks k = decide ((maskN zs mm &&& maskN ks m) ≠ 0)) := Lib.hid (by unfold thQ; rw [HDK.out]; exact mask_meet hyn HM.out HZS.out HKS.out)
    have l1 := maskT_lt HZS.out
    have l2 := maskT_lt HKS.out
    obtain ⟨a, ha⟩ : ∃ a, maskN zs mm = a := ⟨_, rfl⟩
    obtain ⟨b, hb⟩ : ∃ b, maskN ks m = b := ⟨_, rfl⟩
    rw [ha] at CA HQE l1
    rw [hb] at CB HQE l2
    have eab := and_i64t a b (by omega) (by omega)
    obtain ⟨d, hd⟩ : ∃ d, a &&& b = d := ⟨_, rfl⟩
    rw [hd] at eab HQE
    clear ha hb hd hbn hbo hyr hyn hrb hus hy l1 l2
    go_wp2_with fail
    refine CA.out.mono ?_
    rintro e w' ⟨rfl, rfl⟩
    go_wp2_with fail
    refine CB.out.mono ?_
    rintro e w' ⟨rfl, rfl⟩
    by_cases hd0 : d = 0
    case pos =>
      have HTO := Lib.hid (th_out (HQE.out.trans (decide_eq_false (fun h => h hd0))))
      have HMK1 : Hid (m1 = (thK ds ks (k + 1)).length) := Lib.hid (by rw [HTO.out]; exact HMK.out)
      have HOW1 : Hid ((wr.alloc (Obj.cells #[.int .i64 p0, .slice A mm c] 45)).ownsRow w1.heap.size 3 1 (.slice A1 m1 c1') m1 ((thK ds ks (k + 1)).map (Value.int .i64))) := Lib.hid (by rw [HTO.out]; exact HON.out)
      subst hd0
      clear f0 f1
      go_wp2
      go_roundw
      case rel => exact ⟨k + 1, A1, m1, c1', by omega, by go_num, rfl, by omega, HMK1, HOW1, HBN.out⟩
      case measure => simp [intOf]; omega
    case neg =>
      have HTO := Lib.hid (th_in (HQE.out.trans (decide_eq_true hd0)))
      have hd1 : ((d : Int) != 0) = true := by simp; omega
      clear f0 f1
      go_wp2_with (at_builtin; refine wp_app rfl (.tmp 46) (.tmp 48) 39 3 rfl w1.heap.size Try.underlying39 Try.inf_int rfl (by decide) (by decide) _ m1 _ rfl (HON.out.alloc _) _ _ [.int .i64 (k : Int)] rfl rfl (news1 (new_at_ _ _ _ _ (by simp))) (news_int _) (by omega) (by simp; omega) ?_)
      intro A2 d2 N2 w5 hN2 hown2 hgrow2 hloc2
      subst hN2
      have hB3 : Below w1.heap.size w1 w5 := (HBN.out.alloc HBN.out.size _).grown hgrow2 (by simp; omega) (fun g hg => (HON.out.lt g hg).1)
      have HOW3 : Hid (w5.ownsRow w1.heap.size 3 1 (.slice A2 (m1 + 1) d2) (m1 + 1) ((thK ds ks (k + 1)).map (Value.int .i64))) := Lib.hid (by rw [HTO.out, List.map_append]; exact hown2)
      have HMK1 : Hid (m1 + 1 = (thK ds ks (k + 1)).length) := Lib.hid (by rw [HTO.out, List.length_append, ← HMK.out]; rfl)
      clear hown2 hgrow2 hloc2
      obtain ⟨m2, hm2⟩ : ∃ m2, m1 + 1 = m2 := ⟨_, rfl⟩
      rw [hm2] at HOW3 HMK1 ⊢
      have hm3 : m2 ≤ k + 1 := by omega
      clear hm2
      go_wp2
      go_roundw
      case rel => exact ⟨k + 1, A2, m2, d2, by omega, by go_num, rfl, hm3, HMK1, HOW3, hB3⟩
      case measure => simp [intOf]; omega

set_option maxRecDepth 100000 in
set_option maxHeartbeats 8000000 in
theorem specTH {g1 g2 n1 n2 c1 c2 : Nat} {ss : List ByteArray} {fs : List Q4} {w : World} (h : NetAt g1 g2 n1 n2 c1 c2 ss fs w) {B0 g n : Nat} {ys : List Ro} {ds : List RoD} (hT : Ros B0 g n ys w) (hd : ys.map Ro.d = ds) (hs : n ≤ 1048576) {K : Option Addr} {m c3 : Nat} {ks : List Int} (hm : ks.length = m) (hrk : Rd w w.heap.size K (ks.map (Value.int .i64))) (hxk : m ≤ 1048576) :
    Calls Try.prog 37 #[.agg #[.slice (some ⟨g1, 0, none⟩) n1 c1, .slice (some ⟨g2, 0, none⟩) n2 c2], .slice (some ⟨g, 0, none⟩) n n, .slice K m c3] w (IntsP (thL ss fs ds ks) (thB ss fs ds ks) w) := by
  have HL1 := Lib.hid h.ln1
  have HL2 := Lib.hid h.ln2
  have hs2 := h.sm2
  have HNT := Lib.hid h; have HT := Lib.hid hT; have HD := Lib.hid hd; have HM := Lib.hid hm; have HRK := Lib.hid hrk
  have HLD : Hid (ds.length = n) := Lib.hid (by rw [← hd, List.length_map]; exact hT.len)
  clear h hT hd hm hrk
  obtain ⟨RL, hRL⟩ : ∃ r, thL ss fs ds ks = r := ⟨_, rfl⟩
  obtain ⟨RB, hRB⟩ : ∃ r, thB ss fs ds ks = r := ⟨_, rfl⟩
  rw [hRL, hRB]
  have HNO : Hid (¬ thrP ss fs ds ks → RL = [] ∧ RB = false) := Lib.hid (fun e => by rw [← hRL, ← hRB]; exact th_no e)
  have HYES : Hid (thrP ss fs ds ks → RL = thK ds ks ds.length ∧ RB = true) := Lib.hid (fun e => by rw [← hRL, ← hRB]; exact th_yes e)
  clear hRL hRB
  go_enter Try.func37, Try.ntmps37
  go_wp2_with fail
  obtain ⟨W0, hW0⟩ : ∃ W0, (w.alloc (Obj.cells #[.slice (some ⟨g1, 0, none⟩) n1 c1, .slice (some ⟨g2, 0, none⟩) n2 c2] 32)).alloc (Obj.cells #[] 3) = W0 := ⟨_, rfl⟩
  have hb0 : Below w.heap.size w W0 := by rw [← hW0]; exact ((Below.refl _ _).alloc (Nat.le_refl _) _).alloc (by simp) _
  have hk0 : W0.cell? ⟨w.heap.size, 0, none⟩ = some (.slice (some ⟨g1, 0, none⟩) n1 c1) := by rw [← hW0]; simp [go_sem]
  have hk1 : W0.cell? ⟨w.heap.size, 1, none⟩ = some (.slice (some ⟨g2, 0, none⟩) n2 c2) := by rw [← hW0]; simp [go_sem]
  have hz0 : w.heap.size + 1 < W0.heap.size := by rw [← hW0]; simp
  have hown0 : W0.ownsRow (w.heap.size + 1) 3 1 (.slice (some ⟨w.heap.size + 1, 0, none⟩) 0 0) 0 [] := by
    rw [← hW0]
    have := World.ownsRow_lit (base := w.heap.size + 1) (e := 3) (size := 1) (w.alloc (Obj.cells #[.slice (some ⟨g1, 0, none⟩) n1 c1, .slice (some ⟨g2, 0, none⟩) n2 c2] 32)) #[] 0 (by simp) (by unfold maxLen; omega) rfl
    simpa using this
  have HO0 := Lib.hid hown0
  clear hown0
  have HB0 := Lib.hid hb0; have HK0 := Lib.hid hk0; have HK1 := Lib.hid hk1; have HZB := Lib.hid hz0
  rw [hW0]
  clear hW0 hb0
  clear hk0 hk1 hz0
  refine (specNet_ (HNT.out.moved HB0.out)).mono ?_
  rintro e w1 ⟨rfl, hb1⟩
  have HB1 := Lib.hid (HB0.out.trans (hb1.mono HB0.out.size))
  have HBA := Lib.hid hb1
  have HO1 := Lib.hid (ownB HO0.out hb1)
  have l0 := (hb1.cell (p := ⟨w.heap.size, 0, none⟩) (by show w.heap.size < _; have := HZB.out; omega)).trans HK0.out
  have l1 := (hb1.cell (p := ⟨w.heap.size, 1, none⟩) (by show w.heap.size < _; have := HZB.out; omega)).trans HK1.out
  clear hb1
  by_cases hv : netP ss fs
  case neg =>
    have HNOB := Lib.hid (HNO.out (fun hp => hv hp.1))
    rw [pb_false hv]
    clear hv
    go_wp2
    go_ret2
    obtain ⟨rfl, rfl⟩ := HNOB.out
    exact ⟨_, 0, _, rfl, Lib.hid rfl, own_base HO1.out (by omega), HB1.out⟩
  case pos =>
  have HV := Lib.hid hv
  rw [pb_true hv]
  have hnf : n2 ≤ 14 := by have := hv.2.1; have := HL2.out; omega
  clear hv
  by_cases hl : n ≤ 200
  case neg =>
    have HNOB := Lib.hid (HNO.out (fun hp => hl (by have := hp.2.1; have := HLD.out; omega)))
    have hl2 : 200 < (n : Int) := by omega
    clear hl
    go_wp2
    go_ret2
    obtain ⟨rfl, rfl⟩ := HNOB.out
    exact ⟨_, 0, _, rfl, Lib.hid rfl, own_base HO1.out (by omega), HB1.out⟩
  case pos =>
  have hl2 : (n : Int) ≤ 200 := by omega
  have e7 : IntKind.i64.wrap ((n2 : Int) - 1) = (n2 : Int) - 1 := IntWalk.i64_in _ (by omega)
  have CR := Lib.hid (rising_ K m c3 ks ((n2 : Int) - 1) w1 HM.out hxk (HRK.out.moved HB1.out))
  rw [show (n2 : Int) - 1 + 1 = n2 by omega] at CR
  obtain ⟨b, hb⟩ : ∃ b, risB ks (n2 : Int) = b := ⟨_, rfl⟩
  rw [hb] at CR
  have HRB : Hid (risB ks (fs.length : Int) = b) := Lib.hid (by rw [HL2.out]; exact hb)
  clear hb
  go_wp2_with fail
  refine CR.out.mono ?_
  rintro e w2 ⟨rfl, hb2⟩
  have HB2 := Lib.hid (HB1.out.trans (hb2.mono HB1.out.size))
  have HO2 := Lib.hid (ownB HO1.out hb2)
  have HZ1 : Hid (w.heap.size + 1 < w1.heap.size) := Lib.hid (by have := HZB.out; have := HBA.out.size; omega)
  have HK0b := Lib.hid ((hb2.cell (p := ⟨w.heap.size, 0, none⟩) (by show w.heap.size < _; have := HZ1.out; omega)).trans l0)
  have HK1b := Lib.hid ((hb2.cell (p := ⟨w.heap.size, 1, none⟩) (by show w.heap.size < _; have := HZ1.out; omega)).trans l1)
  have HZ2 : Hid (w.heap.size + 1 < w2.heap.size) := Lib.hid (by have := HZ1.out; have := hb2.size; omega)
  clear hb2 l0 l1 e7
  cases b
  case false =>
    have HNOB := Lib.hid (HNO.out (fun hp => by have := hp.2.2.1; rw [HRB.out] at this; cases this))
    go_wp2
    go_ret2
    obtain ⟨rfl, rfl⟩ := HNOB.out
    exact ⟨_, 0, _, rfl, Lib.hid rfl, own_base HO2.out (by omega), HB2.out⟩
  case true =>
  go_wp2
  go_loopw [8, 9] (fun v i wr => ∃ (k : Nat) (A1 : Option Addr) (m1 c1' : Nat), k ≤ n ∧ i = .int .i64 k ∧ v = .slice A1 m1 c1' ∧ m1 ≤ k ∧ Hid (m1 = (thK ds ks k).length) ∧ Hid (∀ j, j < k → routeB ss fs (ron ds j).p0 (ron ds j).zs = true) ∧ Hid (wr.ownsRow (w.heap.size + 1) 3 1 (.slice A1 m1 c1') m1 ((thK ds ks k).map (Value.int .i64))) ∧ Below (w.heap.size + 1) w2 wr) (fun _ i _ => n - (intOf i).toNat)
  case atStart => exact ⟨0, _, 0, _, Nat.zero_le _, rfl, rfl, Nat.le_refl _, Lib.hid rfl, Lib.hid (fun j hj => by omega), HO2, Below.refl _ _⟩
  case round =>
    obtain ⟨k, A1, m1, c1', hk, rfl, rfl, hmk, HMK, HA, HOW, hb⟩ := hrel
    have HBW := Lib.hid (HB2.out.trans (hb.mono (Nat.le_succ _)))
    have HBR := Lib.hid hb
    have HSZ : Hid (w.heap.size + 1 ≤ wr.heap.size) := Lib.hid (by have := hb.size; have := HZ2.out; omega)
    clear hb
    by_cases hlt : k < n
    case neg =>
      have hkn : ds.length = k := by have := HLD.out; omega
      have HYS := HYES.out ⟨HV.out, by omega, HRB.out, by rw [hkn]; exact HA.out⟩
      have HRL : Hid (RL = thK ds ks k) := Lib.hid (by rw [HYS.1, hkn])
      have HRB2 : Hid (RB = true) := Lib.hid HYS.2
      clear HYS hkn
      go_wp2
      go_ret2
      rw [HRL.out, HRB2.out]
      exact ⟨A1, m1, c1', rfl, HMK, own_base HOW.out (Nat.le_succ _), HBW.out⟩
    case pos =>
    have hky : k < ys.length := by have := HT.out.len; omega
    obtain ⟨T, f, x0, hx0, hTT, HST⟩ := above wr
    haveI : Nonempty T := ⟨x0⟩
    have hbx : ∀ x, Below w.heap.size w (f x) := fun x => HBW.out.trans ((hTT x).mono HBW.out.size)
    have hba : ∀ x, Below (w.heap.size + 1) w2 (f x) := fun x => HBR.out.trans ((hTT x).mono HSZ.out)
    have s0 : ∀ x, (f x).cell? ⟨w.heap.size, 0, none⟩ = some (.slice (some ⟨g1, 0, none⟩) n1 c1) := fun x => ((hba x).cell (p := ⟨w.heap.size, 0, none⟩) (by show w.heap.size < _; omega)).trans HK0b.out
    have s1 : ∀ x, (f x).cell? ⟨w.heap.size, 1, none⟩ = some (.slice (some ⟨g2, 0, none⟩) n2 c2) := fun x => ((hba x).cell (p := ⟨w.heap.size, 1, none⟩) (by show w.heap.size < _; omega)).trans HK1b.out
    obtain ⟨y, hy⟩ : ∃ y, ys[k]'hky = y := ⟨_, rfl⟩
    have hrow : ∀ x, (f x).cell? ⟨g, k * 2, none⟩ = some (.int .i64 y.p0) ∧ (f x).cell? ⟨g, k * 2 + 1, none⟩ = some (.slice y.A y.n y.c) := fun x => by
      obtain ⟨_, f0, f1⟩ := (HT.out.moved (hbx x)).rd.roc hky
      rw [Nat.zero_add, hy] at f0 f1
      exact ⟨f0, f1⟩
    have HDK := Lib.hid (ron_at HD.out hky hy)
    have hyy := (HT.out.at_ ys[k] (List.getElem_mem hky))
    rw [hy] at hyy
    obtain ⟨p0, A, mm, c, zs⟩ := y
    obtain ⟨hyn, hys, hyr⟩ := hyy
    simp only at hrow hyn hys hyr
    have s2 := fun x => (hrow x).1
    have s3 := fun x => (hrow x).2
    have HYR := Lib.hid hyr; have HYN := Lib.hid hyn
    have CO : Hid (∀ x, Calls Try.prog 106 #[.agg #[.slice (some ⟨g1, 0, none⟩) n1 c1, .slice (some ⟨g2, 0, none⟩) n2 c2], .agg #[.int .i64 p0, .slice A mm c]] (f x) (RetP (.bool (routeB ss fs p0 zs)) (f x))) := Lib.hid fun x => l4Good_ (c := c) (HNT.out.moved (hbx x)) p0 hyn (hyr.moved (hbx x)) hys
    have HT1 : Hid (∀ x, Below wr.heap.size wr (f x)) := Lib.hid hTT
    have HXX := Lib.hid hx0
    have HS3 := Lib.hid hrow
    clear hrow hbx hba hTT hx0 hy hyn hyr
    cases hb1 : routeB ss fs p0 zs
    case false =>
      rw [hb1] at CO
      have HNOB := Lib.hid (HNO.out (fun hp => by have h9 := hp.2.2.2 k (by have := HLD.out; omega); rw [HDK.out] at h9; have h8 : routeB ss fs p0 zs = true := h9; rw [hb1] at h8; cases h8))
      clear hb1
      go_wp2
      refine wp_region_class f (by kernel_rfl) (by kernel_rfl) x0 HXX.out ?_
      repeat (go_big_quiet_step ((go_at_call 106; exact Calls.inClass HST (CO.out _))))
      refine wpQuiet_nil ?_
      rintro _ ⟨x, rfl⟩
      have HB3 := Lib.hid (HBW.out.trans ((HT1.out x).mono HBW.out.size))
      clear s0 s1 s2 s3
      go_wp2
      go_ret2
      exact ints_lit HNOB.out HB3.out rfl
    case true =>
    rw [hb1] at CO
    have HA1 : Hid (∀ j, j < k + 1 → routeB ss fs (ron ds j).p0 (ron ds j).zs = true) := Lib.hid (fun j hj => by
      rcases Nat.lt_or_ge j k with hj' | hj'
      · exact HA.out j hj'
      · obtain rfl : j = k := by omega
        rw [HDK.out]; exact hb1)
    clear hb1
    have HQE : Hid (thQ ds ks k = (zs.any fun f => decide (f ∈ ks))) := Lib.hid (by unfold thQ; rw [HDK.out]; rfl)
    go_wp2
    refine wp_region_class f (by kernel_rfl) (by kernel_rfl) x0 HXX.out ?_
    repeat (go_big_quiet_step ((go_at_call 106; exact Calls.inClass HST (CO.out _))))
    refine wpQuiet_nil ?_
    rintro _ ⟨x, rfl⟩
    have s2' := s2 x
    have s3' := s3 x
    have HB3 := Lib.hid (HBW.out.trans ((HT1.out x).mono HBW.out.size))
    have HBQ := Lib.hid (HBR.out.trans ((HT1.out x).mono HSZ.out))
    have HO3 := Lib.hid (ownB HOW.out (HT1.out x))
    have HS3z : Hid (w.heap.size + 1 ≤ (f x).heap.size) := Lib.hid (by have := (HT1.out x).size; have := HSZ.out; omega)
    clear s0 s1 s2 s3
    generalize f x = wq at s2' s3' HB3 HBQ HO3 HS3z ⊢
    have CU := Lib.hid (l4Uses_ p0 A mm c zs K m c3 ks wq HYN.out (HYR.out.moved HB3.out) hys HM.out (HRK.out.moved HB3.out) hxk)
    obtain ⟨q, hq⟩ : ∃ q, (zs.any fun f => decide (f ∈ ks)) = q := ⟨_, rfl⟩
    rw [hq] at CU HQE
    clear hq
    go_wp2_with fail
    refine CU.out.mono ?_
    rintro e w3 ⟨rfl, hb3⟩
    have HO4 := Lib.hid (ownB HO3.out hb3)
    have HB4 := Lib.hid (HBQ.out.trans (hb3.mono HS3z.out))
    have HS4 : Hid (w.heap.size + 1 ≤ w3.heap.size) := Lib.hid (by have := hb3.size; have := HS3z.out; omega)
    clear hb3 s2' s3'
    cases q
    case false =>
      have HTO := Lib.hid (th_out HQE.out)
      have HMK1 : Hid (m1 = (thK ds ks (k + 1)).length) := Lib.hid (by rw [HTO.out]; exact HMK.out)
      have HOW1 : Hid (w3.ownsRow (w.heap.size + 1) 3 1 (.slice A1 m1 c1') m1 ((thK ds ks (k + 1)).map (Value.int .i64))) := Lib.hid (by rw [HTO.out]; exact HO4.out)
      go_wp2
      go_roundw
      case rel => exact ⟨k + 1, A1, m1, c1', by omega, by go_num, rfl, by omega, HMK1, HA1, HOW1, HB4.out⟩
      case measure => simp [intOf]; omega
    case true =>
      have HTO := Lib.hid (th_in HQE.out)
      go_wp2_with (at_builtin; refine wp_app rfl (.tmp 49) (.tmp 51) 39 3 rfl (w.heap.size + 1) Try.underlying39 Try.inf_int rfl (by decide) (by decide) _ m1 _ rfl (HO4.out.alloc _) _ _ [.int .i64 (k : Int)] rfl rfl (news1 (new_at_ _ _ _ _ rfl)) (news_int _) (by omega) (by have := HS4.out; simp; omega) ?_)
      intro A2 d2 N2 w5 hN2 hown2 hgrow2 hloc2
      subst hN2
      have hB3 : Below (w.heap.size + 1) w2 w5 := (HB4.out.alloc HS4.out _).grown hgrow2 (by have := HS4.out; simp; omega) (fun g hg => (HO4.out.lt g hg).1)
      have HOW3 : Hid (w5.ownsRow (w.heap.size + 1) 3 1 (.slice A2 (m1 + 1) d2) (m1 + 1) ((thK ds ks (k + 1)).map (Value.int .i64))) := Lib.hid (by rw [HTO.out, List.map_append]; exact hown2)
      have HMK1 : Hid (m1 + 1 = (thK ds ks (k + 1)).length) := Lib.hid (by rw [HTO.out, List.length_append, ← HMK.out]; rfl)
      clear hown2 hgrow2 hloc2
      obtain ⟨m2, hm2⟩ : ∃ m2, m1 + 1 = m2 := ⟨_, rfl⟩
      rw [hm2] at HOW3 HMK1 ⊢
      have hm3 : m2 ≤ k + 1 := by omega
      clear hm2
      go_wp2
      go_roundw
      case rel => exact ⟨k + 1, A2, m2, d2, by omega, by go_num, rfl, hm3, HMK1, HA1, HOW3, hB3⟩
      case measure => simp [intOf]; omega
end Go.Proofs.Ytdaopbdjbpopiaa
