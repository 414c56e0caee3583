/- What sharing saves: plain words, contracts of both sides. Condition: the table of math/bits holds what Go's text lays. -/
import Derived.Test.YtlgkjidginibdaaDoorSmJ
import Derived.Test.YtlgkjidginibdaaDoorOnes2
import Derived.Test.YtlgkjidginibdaaDoorGD
namespace Go.Proofs.YtlgkjidginibdaaDoor
open Go.ChangeShapes Go.WideShapes Go.ChangeAt Go.RowKit

theorem bitP1 (m k : Nat) (hm : m ≤ 16777215) : bits .and .i64 ((m : Int) / 2 ^ k) 1 = ((m / 2 ^ k % 2 : Nat) : Int) := by
  have e : (m : Int) / 2 ^ k = ((m / 2 ^ k : Nat) : Int) := by simp
  have h1 : m / 2 ^ k ≤ m := Nat.div_le_self _ _
  rw [e]
  have := and_i64q (m / 2 ^ k) 1 (by omega) (by omega)
  have e1 : ((1 : Nat) : Int) = 1 := rfl
  rw [e1] at this
  rw [this, Nat.and_one_is_mod]
set_option maxHeartbeats 1000000 in
theorem cntP_ (m : Nat) (w : World) (h : m ≤ 16777215) : Calls Tryd.prog 42 #[.int .i64 (m : Int)] w fun e w' => e = .returned (.int .i64 (popN m 24 : Int)) ∧ w = w' := by
  go_enter Tryd.func42, Tryd.ntmps42
  go_wp2
  go_loopw [3, 4] (fun v i wr => ∃ k : Nat, k ≤ 24 ∧ i = .int .i64 k ∧ v = .int .i64 (popN m k : Int) ∧ w = wr) (fun _ i _ => 24 - (intOf i).toNat)
  case atStart => exact ⟨0, Nat.zero_le _, rfl, rfl, rfl⟩
  case round =>
    obtain ⟨k, hk, rfl, rfl, rfl⟩ := hrel
    by_cases hlt : k < 24
    case pos =>
      have HB1 := Lib.hid (bitP1 m k h)
      have hst : popN m (k + 1) = popN m k + m / 2 ^ k % 2 := rfl
      have hpl := popN_le m k
      obtain ⟨b, hbb⟩ : ∃ b, m / 2 ^ k % 2 = b := ⟨_, rfl⟩
      have hb1 : b ≤ 1 := by omega
      have hq : bits .and .i64 ((m : Int) / 2 ^ k) 1 = (b : Int) := by rw [HB1.out, hbb]
      rw [hbb] at hst
      obtain ⟨n, hn⟩ : ∃ n, popN m k = n := ⟨_, rfl⟩
      rw [hn] at hst hpl ⊢
      have HST := Lib.hid hst
      have hlt' : (k : Int) < 24 := by omega
      have hn24 : (n : Int) ≤ 24 := by omega
      have hb1' : (b : Int) ≤ 1 := by omega
      clear HB1 hst hbb hn
      go_wp2
      go_roundw
      case rel => exact ⟨k + 1, by omega, by go_num, by rw [HST.out]; go_num, by first | rfl | trivial⟩
      case measure => simp [intOf]; omega
    case neg =>
      have hk24 : k = 24 := by omega
      subst hk24
      go_wp2
      go_ret
      exact ⟨rfl, rfl⟩

def svI (ds : List SvD) (f : Int) : Nat → Int
  | 0 => 0
  | k + 1 => svI ds f k + if f ∈ (svn ds k).us then (svn ds k).y2 else 0
def ssT (ds : List SvD) : Nat → Int
  | 0 => 0
  | f + 1 => ssT ds f + svI ds (f : Int) ds.length - (popN (spN ds (f : Int)) 24 : Int)
def rsv (ds : List SvD) : Nat → Int
  | 0 => 0
  | k + 1 => rsv ds k + (svn ds k).y2 * ((svn ds k).us.length : Int)
def ppT (g : Int → Nat) : Nat → Int
  | 0 => 0
  | f + 1 => ppT g f + (popN (g (f : Int)) 24 : Int)
def cnL (L : List Int) : Nat → Int
  | 0 => 0
  | f + 1 => cnL L f + if (f : Int) ∈ L then 1 else 0
theorem cnL_nil : ∀ n, cnL [] n = 0
  | 0 => rfl
  | n + 1 => by rw [cnL, cnL_nil n]; simp
theorem cnL_in (L : List Int) : ∀ n, 0 ≤ cnL L n ∧ cnL L n ≤ n
  | 0 => ⟨Int.le_refl 0, Int.le_refl 0⟩
  | n + 1 => by have := cnL_in L n; rw [cnL]; split <;> omega
theorem cnL_one (a : Int) : ∀ n : Nat, cnL [a] n = if 0 ≤ a ∧ a < n then 1 else 0
  | 0 => by rw [cnL, if_neg (by omega)]
  | n + 1 => by
    rw [cnL, cnL_one a n]
    by_cases h : (n : Int) = a
    · rw [if_neg (by omega), if_pos (by rw [h]; simp), if_pos (by omega)]; rfl
    · rw [if_neg (c := (n : Int) ∈ [a]) (by simpa using h)]
      by_cases h2 : 0 ≤ a ∧ a < n
      · rw [if_pos h2, if_pos (by omega)]; rfl
      · rw [if_neg h2, if_neg (by omega)]; rfl
theorem cnL_cons {a : Int} {L : List Int} (h : a ∉ L) : ∀ n : Nat, cnL (a :: L) n = cnL [a] n + cnL L n
  | 0 => rfl
  | n + 1 => by
    rw [cnL, cnL, cnL, cnL_cons h n]
    by_cases h1 : (n : Int) = a
    · rw [if_pos (by rw [h1]; simp), if_pos (by rw [h1]; simp), if_neg (by rw [h1]; exact h)]; omega
    · have e1 : ((n : Int) ∈ a :: L) ↔ (n : Int) ∈ L := by rw [List.mem_cons]; exact ⟨fun x => x.resolve_left h1, .inr⟩
      rw [if_neg (c := (n : Int) ∈ [a]) (by simpa using h1)]
      by_cases h2 : (n : Int) ∈ L
      · rw [if_pos (e1.2 h2), if_pos h2]; omega
      · rw [if_neg (fun x => h2 (e1.1 x)), if_neg h2]; omega
theorem cnL_len {n : Nat} : ∀ {L : List Int}, L.Nodup → (∀ x ∈ L, 0 ≤ x ∧ x < (n : Int)) → cnL L n = L.length
  | [], _, _ => cnL_nil n
  | a :: L, hd, hb => by
    rw [List.nodup_cons] at hd
    rw [cnL_cons hd.1, cnL_one, if_pos (hb a (List.mem_cons_self ..)), cnL_len hd.2 (fun x hx => hb x (List.mem_cons_of_mem _ hx)), List.length_cons]
    omega
/-- the same sum, by services. -/
def rcS (ds : List SvD) (n : Nat) : Nat → Int
  | 0 => 0
  | k + 1 => rcS ds n k + (svn ds k).y2 * cnL (svn ds k).us n
theorem rcS_zero (ds : List SvD) : ∀ k, rcS ds 0 k = 0
  | 0 => rfl
  | k + 1 => by rw [rcS, rcS_zero ds k]; show 0 + _ * (0 : Int) = 0; rw [Int.mul_zero]; rfl
theorem rcS_succ (ds : List SvD) (n : Nat) : ∀ k, rcS ds (n + 1) k = rcS ds n k + svI ds (n : Int) k
  | 0 => rfl
  | k + 1 => by
    rw [rcS, rcS, svI, rcS_succ ds n k, cnL]
    split
    · rw [Int.mul_add, Int.mul_one]; omega
    · rw [Int.add_zero]; omega
theorem ssT_rc (ds : List SvD) : ∀ n, ssT ds n = rcS ds n ds.length - ppT (spN ds) n
  | 0 => by rw [rcS_zero]; rfl
  | n + 1 => by rw [ssT, ssT_rc ds n, rcS_succ, ppT]; omega
theorem rcS_rsv {ds : List SvD} {n : Nat} (h : ∀ k, k < ds.length → cnL (svn ds k).us n = (svn ds k).us.length) : ∀ k, k ≤ ds.length → rcS ds n k = rsv ds k
  | 0, _ => rfl
  | k + 1, hk => by rw [rcS, rsv, rcS_rsv h k (by omega), h k (by omega)]
def ssH (ds : List SvD) (n : Nat) : Prop := ∀ k, k < ds.length → (svn ds k).us.Nodup ∧ (∀ x ∈ (svn ds k).us, 0 ≤ x ∧ x < (n : Int)) ∧ ((svn ds k).us ≠ [] → blkP (svn ds k).x2 (svn ds k).y2)
theorem svP_un {ss : List ByteArray} {fs : List Q4} {d : SvD} (h : svP ss fs d) : d.us.Nodup := by
  by_cases hk : d.k = 0
  · rw [(h.2.2.1 hk).1.2]; exact List.nodup_nil
  · exact (route_nodup (h.2.2.2 hk).1.1).1
theorem ssH_of {ss : List ByteArray} {fs : List Q4} {ds : List SvD} (h : svsP ss fs ds) : ssH ds fs.length := fun k hk => ⟨svP_un (h.2.2.1 k hk).1, svP_us (h.2.2.1 k hk).1, svP_b2 (h.2.2.1 k hk).1⟩
theorem blk_y {x y : Int} (h : blkP x y) : 0 ≤ y ∧ y ≤ 24 := by have := h; unfold blkP at this; omega
theorem svI_in {ds : List SvD} {n : Nat} (h : ssH ds n) (f : Int) : ∀ k, k ≤ ds.length → 0 ≤ svI ds f k ∧ svI ds f k ≤ 24 * (k : Int)
  | 0, _ => ⟨Int.le_refl 0, Int.le_refl 0⟩
  | k + 1, hk => by
    have ih := svI_in h f k (by omega)
    rw [svI]
    split
    · rename_i hf
      have := blk_y ((h k (by omega)).2.2 (fun e => by rw [e] at hf; simp at hf))
      omega
    · omega
theorem ssT_in {ds : List SvD} {n : Nat} (h : ssH ds n) (h8 : ds.length ≤ 8) : ∀ f : Nat, -24 * (f : Int) ≤ ssT ds f ∧ ssT ds f ≤ 192 * (f : Int)
  | 0 => ⟨by show (-24 : Int) * ((0 : Nat) : Int) ≤ (0 : Int); decide, by show (0 : Int) ≤ 192 * ((0 : Nat) : Int); decide⟩
  | f + 1 => by
    have ih := ssT_in h h8 f
    have := svI_in h (f : Int) ds.length (Nat.le_refl _)
    have := popN_le (spN ds (f : Int)) 24
    rw [ssT]
    omega
theorem us_len {ds : List SvD} {n : Nat} (h : ssH ds n) {k : Nat} (hk : k < ds.length) : (svn ds k).us.length ≤ n := by
  have h1 := cnL_len (h k hk).1 (h k hk).2.1
  have := cnL_in (svn ds k).us n
  omega
theorem rsv_one {ds : List SvD} {n : Nat} (h : ssH ds n) (hn : n ≤ 14) {k : Nat} (hk : k < ds.length) : 0 ≤ (svn ds k).y2 * ((svn ds k).us.length : Int) ∧ (svn ds k).y2 * ((svn ds k).us.length : Int) ≤ 336 := by
  have hl := us_len h hk
  by_cases e : (svn ds k).us = []
  · rw [e]; simp
  · have hb := blk_y ((h k hk).2.2 e)
    refine ⟨Int.mul_nonneg hb.1 (by omega), ?_⟩
    refine Int.le_trans (Int.mul_le_mul hb.2 (show ((svn ds k).us.length : Int) ≤ 14 by omega) (by omega) (by decide)) (by decide)
theorem rsv_in {ds : List SvD} {n : Nat} (h : ssH ds n) (hn : n ≤ 14) : ∀ k, k ≤ ds.length → 0 ≤ rsv ds k ∧ rsv ds k ≤ 336 * (k : Int)
  | 0, _ => ⟨Int.le_refl 0, Int.le_refl 0⟩
  | k + 1, hk => by
    have ih := rsv_in h hn k (by omega)
    have := rsv_one h hn (show k < ds.length by omega)
    rw [rsv]
    omega
theorem ppT_in (g : Int → Nat) : ∀ f : Nat, 0 ≤ ppT g f ∧ ppT g f ≤ 24 * (f : Int)
  | 0 => ⟨Int.le_refl 0, by show (0 : Int) ≤ 24 * ((0 : Nat) : Int); decide⟩
  | f + 1 => by
    have ih := ppT_in g f
    have := popN_le (g (f : Int)) 24
    rw [ppT]
    omega
noncomputable def ssV (ss : List ByteArray) (fs : List Q4) (ds : List SvD) : Int := if pb (svsP ss fs ds) then ssT ds fs.length else 0
noncomputable def ssR (ss : List ByteArray) (fs : List Q4) (ds : List SvD) : Value := .tuple #[.int .i64 (ssV ss fs ds), .bool (pb (svsP ss fs ds))]
theorem ss_no {ss : List ByteArray} {fs : List Q4} {ds : List SvD} (h : pb (svsP ss fs ds) = false) : (.tuple #[.int .i64 0, .bool false] : Value) = ssR ss fs ds := by unfold ssR ssV; rw [h]; rfl
theorem ss_yes {ss : List ByteArray} {fs : List Q4} {ds : List SvD} (h : pb (svsP ss fs ds) = true) : (.tuple #[.int .i64 (ssT ds fs.length), .bool true] : Value) = ssR ss fs ds := by unfold ssR ssV; rw [h]; rfl
theorem ss_eq {ss : List ByteArray} {fs : List Q4} {ds : List SvD} (h : pb (svsP ss fs ds) = true) : rsv ds ds.length - ppT (spN ds) fs.length = ssT ds fs.length := by
  have hH := ssH_of (of_pb h)
  rw [ssT_rc, rcS_rsv (fun k hk => cnL_len (hH k hk).1 (hH k hk).2.1) _ (Nat.le_refl _)]
set_option maxRecDepth 100000 in
set_option maxHeartbeats 8000000 in
theorem specSS {g1 g2 g3 n1 n2 n3 c1 c2 B : Nat} {ss : List ByteArray} {fs : List Q4} {ys : List Sv} {ds : List SvD} {w : World} (h : NetAt g1 g2 n1 n2 c1 c2 ss fs w) (hT : Svs B g3 n3 ys w) (hd : ys.map Sv.d = ds) (hs : n3 ≤ 1048576) :
    Calls Tryd.prog 19 #[.agg #[.slice (some ⟨g1, 0, none⟩) n1 c1, .slice (some ⟨g2, 0, none⟩) n2 c2], .slice (some ⟨g3, 0, none⟩) n3 n3] w (RetP (ssR ss fs ds) w) := by
  have HL2 := Lib.hid h.ln2
  have hn2m := h.sm2
  have HT := Lib.hid hT; have HD := Lib.hid hd
  have HLD : Hid (ds.length = n3) := Lib.hid (by rw [← hd, List.length_map]; exact hT.len)
  obtain ⟨rb, hrb⟩ : ∃ r, pb (svsP ss fs ds) = r := ⟨_, rfl⟩
  obtain ⟨rv, hrv⟩ : ∃ r, ssR ss fs ds = r := ⟨_, rfl⟩
  have HRB := Lib.hid hrb; have HRV := Lib.hid hrv
  have CG : Hid (∀ U, Below w.heap.size w U → Calls Tryd.prog 27 #[.agg #[.slice (some ⟨g1, 0, none⟩) n1 c1, .slice (some ⟨g2, 0, none⟩) n2 c2], .slice (some ⟨g3, 0, none⟩) n3 n3] U (RetP (.bool rb) U)) := Lib.hid (fun U hU => by rw [← hrb]; exact l13Good_ (h.moved hU) (hT.moved hU) hd hs)
  have CM : Hid (rb = true → ∀ U, Below w.heap.size w U → ∀ x : Int, Calls Tryd.prog 28 #[.slice (some ⟨g3, 0, none⟩) n3 n3, .int .i64 x] U (RetP (.tuple #[.int .i64 (wkN ds x : Int), .int .i64 (spN ds x : Int)]) U)) := Lib.hid (fun e U hU x => by
    have hv := of_pb (hrb.trans e)
    exact l13Masks_ (hT.moved hU) hd hs (fun i hi => (hv.2.2.1 i hi).1.2.1.2) (fun i hi e => svP_b2 (hv.2.2.1 i hi).1 e) x)
  rw [hrv]
  clear h hT hd hrb hrv
  go_enter Tryd.func19, Tryd.ntmps19
  go_wp2_with fail
  obtain ⟨W0, hW0⟩ : ∃ W0, w.alloc (Obj.cells #[.slice (some ⟨g1, 0, none⟩) n1 c1, .slice (some ⟨g2, 0, none⟩) n2 c2] 34) = W0 := ⟨_, rfl⟩
  have hb0 : Below w.heap.size w W0 := by rw [← hW0]; exact (Below.refl _ _).alloc (Nat.le_refl _) _
  have k1 : W0.cell? ⟨w.heap.size, 1, none⟩ = some (.slice (some ⟨g2, 0, none⟩) n2 c2) := by rw [← hW0]; simp [go_sem]
  have hz0 : W0.heap.size = w.heap.size + 1 := by rw [← hW0]; simp
  have HB0 := Lib.hid hb0; have HZ0 := Lib.hid hz0; have HK1 := Lib.hid k1
  rw [hW0]
  clear hW0 hb0 k1 hz0
  refine (CG.out _ HB0.out).mono ?_
  rintro e w1 ⟨rfl, hb1⟩
  have HB1 := Lib.hid hb1
  have HBW1 := Lib.hid (HB0.out.trans (hb1.mono HB0.out.size))
  clear hb1 CG
  cases rb
  case false =>
    have HE := Lib.hid (HRV.out.symm.trans (ss_no HRB.out).symm).symm
    clear CM
    go_wp2
    go_ret2
    exact ⟨by rw [← HE.out]; rfl, HBW1.out⟩
  case true =>
  have HV := Lib.hid (of_pb HRB.out)
  have HH := Lib.hid (ssH_of HV.out)
  have H8 : Hid (ds.length ≤ 8) := Lib.hid HV.out.2.1
  have hn8 : n3 ≤ 8 := by have := H8.out; have := HLD.out; omega
  have hn14 : n2 ≤ 14 := by have := HV.out.1.2.1; have := HL2.out; omega
  have HE := Lib.hid (HRV.out.symm.trans (ss_yes HRB.out).symm).symm
  have CMt := Lib.hid (CM.out rfl)
  have HSL : Hid (∀ x : Int, spN ds x ≤ 16777215) := Lib.hid (fun x => by have h9 := orK_lt (Z := SvD.us) (P := spP) (ds := ds) (f := x) (fun i hi e => (HH.out i hi).2.2 e) ds.length (Nat.le_refl _); show orK _ _ _ _ _ ≤ _; omega)
  clear CM
  go_wp2
  go_loopw [6, 7] (fun v i wr => ∃ (f : Nat) (x : Int), f ≤ n2 ∧ i = .int .i64 f ∧ v = .int .i64 x ∧ Hid (ssT ds f = x) ∧ Below W0.heap.size W0 wr) (fun _ i _ => n2 - (intOf i).toNat)
  case atStart => exact ⟨0, 0, Nat.zero_le _, rfl, rfl, Lib.hid rfl, HB1.out⟩
  case round =>
    obtain ⟨f, x, hf, rfl, rfl, HX, hb⟩ := hrel
    have HBR := Lib.hid hb
    have k1 := (hb.cell (p := ⟨w.heap.size, 1, none⟩) (by have := HZ0.out; show w.heap.size < _; omega)).trans HK1.out
    have hzw : w.heap.size < wr.heap.size := by have := HZ0.out; have := hb.size; omega
    have hxb := ssT_in HH.out H8.out f
    rw [HX.out] at hxb
    clear hb
    by_cases hlt : f < n2
    case neg =>
      obtain rfl : n2 = f := by omega
      have HE2 : Hid ((.tuple #[.int .i64 x, .bool true] : Value) = rv) := Lib.hid (by rw [← HE.out, HL2.out, HX.out])
      clear hxb hlt
      go_wp2
      go_ret2
      exact ⟨by rw [← HE2.out]; rfl, HB0.out.trans (HBR.out.mono HB0.out.size)⟩
    case pos =>
    go_wp2
    clear k1
    go_loopw [6, 8] (fun v i wr => ∃ (k : Nat) (y : Int), k ≤ n3 ∧ i = .int .i64 k ∧ v = .int .i64 (x + y) ∧ Hid (svI ds (f : Int) k = y) ∧ Below W0.heap.size W0 wr) (fun _ i _ => n3 - (intOf i).toNat)
    case atStart => exact ⟨0, 0, Nat.zero_le _, rfl, by rw [Int.add_zero], Lib.hid rfl, HBR.out⟩
    case round =>
      clear HBR hzw
      rename_i wr0
      obtain ⟨k, y, hk, rfl, rfl, HY, hb⟩ := hrel
      have HBR := Lib.hid hb
      have HBW := Lib.hid (HB0.out.trans (hb.mono HB0.out.size))
      have hyb := svI_in HH.out (f : Int) k (by have := HLD.out; omega)
      rw [HY.out] at hyb
      by_cases hlk : k < n3
      case neg =>
        obtain rfl : n3 = k := by omega
        have HM := Lib.hid (CMt.out wr HBW.out (f : Int))
        have HS : Hid (ssT ds (f + 1) = x + y - (popN (spN ds (f : Int)) 24 : Int)) := Lib.hid (by rw [ssT, HX.out, HLD.out, HY.out])
        have hsl := HSL.out (f : Int)
        have hpl := popN_le (spN ds (f : Int)) 24
        obtain ⟨a, ha⟩ : ∃ a, wkN ds (f : Int) = a := ⟨_, rfl⟩
        obtain ⟨b, hb9⟩ : ∃ a, spN ds (f : Int) = a := ⟨_, rfl⟩
        rw [ha, hb9] at HM; rw [hb9] at HS hsl hpl
        have CC := Lib.hid (fun U => cntP_ b U hsl)
        obtain ⟨p, hp⟩ : ∃ p, popN b 24 = p := ⟨_, rfl⟩
        rw [hp] at CC HS hpl
        clear ha hb9 hp hb hsl
        go_wp2_with fail
        refine HM.out.mono ?_
        rintro e w2 ⟨rfl, hb2⟩
        have HB2 := Lib.hid (HBR.out.trans (hb2.mono HBR.out.size))
        clear hb2
        go_wp2_with fail
        refine (CC.out _).mono ?_
        rintro e w3 ⟨rfl, rfl⟩
        go_wp2
        go_roundw
        case rel => exact ⟨f + 1, x + y - (p : Int), by omega, by go_num, by go_num, HS, HB2.out⟩
        case measure => simp [intOf]; omega
      case pos =>
      have hkl : k < ys.length := by have := HT.out.len; omega
      obtain ⟨z, hke⟩ : ∃ z, ys[k]'hkl = z := ⟨_, rfl⟩
      have HDK := Lib.hid (svn_at HD.out hkl hke)
      have hyat : SvAt w z := by rw [← hke]; exact HT.out.at_ _ (List.getElem_mem hkl)
      obtain ⟨hg3, r0, r1, r2, r3, r4, r5, r6, r7, r8, r9⟩ := (HT.out.moved HBW.out).rd.svc hkl
      rw [Nat.zero_add, hke] at r0 r1 r2 r3 r4 r5 r6 r7 r8 r9
      have CH := Lib.hid (has_ z.A2 z.m z.c2 z.us (f : Int) wr hyat.2.1 (hyat.2.2.2.moved HBW.out) (by have := hyat.2.2.1; omega))
      have HST : Hid (svI ds (f : Int) (k + 1) = y + if (f : Int) ∈ z.us then z.y2 else 0) := Lib.hid (by rw [svI, HY.out, HDK.out]; rfl)
      have HBK : Hid ((f : Int) ∈ z.us → 0 ≤ z.y2 ∧ z.y2 ≤ 24) := Lib.hid (fun hin => by
        have h9 := (HH.out k (by have := HLD.out; omega)).2.2
        rw [HDK.out] at h9
        exact blk_y (h9 (fun e => by have e2 : z.us = [] := e; rw [e2] at hin; simp at hin)))
      clear hb hyat hke hkl
      by_cases hin : (f : Int) ∈ z.us
      case pos =>
        have D2 : decide ((f : Int) ∈ z.us) = true := decide_eq_true hin
        rw [D2] at CH
        rw [if_pos hin] at HST
        have hy9 := HBK.out hin
        clear D2 hin
        go_wp2_with fail
        refine CH.out.mono ?_
        rintro e w' ⟨rfl, rfl⟩
        go_wp2
        go_roundw
        case rel => exact ⟨k + 1, y + z.y2, by omega, by go_num, by go_num, HST, HBR.out⟩
        case measure => simp [intOf]; omega
      case neg =>
        have D2 : decide ((f : Int) ∈ z.us) = false := decide_eq_false hin
        rw [D2] at CH
        rw [if_neg hin, Int.add_zero] at HST
        clear D2 hin
        go_wp2_with fail
        refine CH.out.mono ?_
        rintro e w' ⟨rfl, rfl⟩
        clear r0 r1 r2 r3 r4 r5 r6 r7 r8 r9
        go_wp2
        go_roundw
        case rel => exact ⟨k + 1, y, by omega, by go_num, rfl, HST, HBR.out⟩
        case measure => simp [intOf]; omega
end Go.Proofs.YtlgkjidginibdaaDoor
