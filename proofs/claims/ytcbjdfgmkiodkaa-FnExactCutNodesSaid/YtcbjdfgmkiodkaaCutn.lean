/- Cut nodes: contract of impl.CutNodes. No condition but those typed. -/
import Derived.Test.YtcbjdfgmkiodkaaCritS
import Derived.Test.YtcbjdfgmkiodkaaGB
import Derived.WalkMore
namespace Go.Proofs.Ytcbjdfgmkiodkaa
open Go.ChangeShapes Go.WideShapes Go.ChangeAt Go.RowKit

def clrN (m v : Nat) : Nat := m &&& (255 ^^^ 2 ^ v)
theorem andNot_fin : ∀ R : Fin 256, ∀ v : Fin 8, bits .andNot .i64 (R.val : Int) ((2 : Int) ^ v.val) = ((R.val &&& (255 ^^^ 2 ^ v.val) : Nat) : Int) := by decide +kernel
theorem andNot_i64 (R v : Nat) (hR : R < 2 ^ 8) (hv : v < 8) : bits .andNot .i64 (R : Int) ((2 : Int) ^ v) = ((clrN R v : Nat) : Int) := andNot_fin ⟨R, hR⟩ ⟨v, hv⟩
theorem full_fin : ∀ i : Fin 8, (255 : Nat).testBit i.val = true := by decide
theorem clr_set {p : Nat → Bool} {n v : Nat} (hn : n ≤ 8) : clrN (setN p n) v = setN (fun i => p i && !decide (i = v)) n := by
  refine setN_eq fun i => ?_
  unfold clrN
  rw [Nat.testBit_and, setN_test, Nat.testBit_xor]
  by_cases hi : i < n
  · have h8 : (255 : Nat).testBit i = true := full_fin ⟨i, by omega⟩
    rw [h8, decide_eq_true hi]
    by_cases e : i = v
    · subst e; simp
    · rw [Nat.testBit_two_pow_of_ne (fun h => e h.symm)]; simp [e]
  · rw [decide_eq_false hi]; simp
theorem at_mem {fs : List Q4} {v : Int} {k : Nat} {x : Int} : x ∈ atK fs v k ↔ ∃ i : Nat, x = (i : Int) ∧ i < k ∧ meets (fs.getD i ⟨0, 0, 0, 0⟩) v = true := by
  unfold atK
  rw [List.mem_map]
  constructor
  · rintro ⟨i, hi, rfl⟩
    rw [List.mem_filter, List.mem_range] at hi
    exact ⟨i, rfl, hi.1, hi.2⟩
  · rintro ⟨i, rfl, hi, hd⟩
    exact ⟨i, by rw [List.mem_filter, List.mem_range]; exact ⟨hi, hd⟩, rfl⟩
theorem at_bd {ss : List ByteArray} {fs : List Q4} (hv : netP ss fs) (v : Int) : ∀ k, k < (atK fs v fs.length).length → 0 ≤ nth (atK fs v fs.length) k ∧ nth (atK fs v fs.length) k < 20 := by
  intro k hk
  rw [← nth_eq hk]
  obtain ⟨i, e, hi, _⟩ := at_mem.1 (List.getElem_mem hk)
  rw [e]
  have := hv.2.1
  omega
def atN (fs : List Q4) (v : Int) : Nat := mkN (atK fs v fs.length)
theorem at_away {ss : List ByteArray} {fs : List Q4} (hv : netP ss fs) {v x y : Int} (h : Cn fs (atN fs v) x y) (hx : x ≠ v) : y ≠ v := by
  refine h.closed (S := fun z => z ≠ v) (fun i a b hg he _ hb => ?_) hx
  have hm : meets (fs.getD i ⟨0, 0, 0, 0⟩) v = true := by
    unfold meets
    have h2 := he.2
    have e : fibI fs (i : Int) = fs.getD i ⟨0, 0, 0, 0⟩ := by unfold fibI; congr 1
    rw [e] at h2
    exact decide_eq_true (by rcases h2 with ⟨_, h4⟩ | ⟨h3, h4⟩ <;> omega)
  have hin : (i : Int) ∈ atK fs v fs.length := at_mem.2 ⟨i, rfl, he.1, hm⟩
  obtain ⟨j, hj, e⟩ := mem_nth.1 hin
  have ht : (atN fs v).testBit i = true := by
    unfold atN mkN
    rw [mask_test (fun j hj => (at_bd hv v j hj).1)]
    exact decide_eq_true ⟨j, hj, e⟩
  rw [ht] at hg
  cases hg
noncomputable def cutQ (n1 : Nat) (fs : List Q4) (v : Nat) : Bool := pb (splP n1 fs (atN fs (v : Int)) (v : Int))
theorem cut_iff {ss : List ByteArray} {fs : List Q4} (hv : netP ss fs) {n1 v : Nat} (hn : n1 ≤ 8) : (∃ x : Nat, x < n1 ∧ x ≠ v ∧ rchN n1 fs (atN fs (v : Int)) (x : Int) ≠ clrN (rchN n1 fs 0 (x : Int)) v) ↔ splP n1 fs (atN fs (v : Int)) (v : Int) := by
  constructor
  · rintro ⟨x, hx, hxv, hne⟩
    have : ∃ i, i < n1 ∧ ¬ pb (Cn fs (atN fs (v : Int)) (x : Int) (i : Int)) = (pb (Cn fs 0 (x : Int) (i : Int)) && !decide (i = v)) := by
      refine Classical.byContradiction fun hn2 => hne ?_
      unfold rchN
      rw [clr_set hn]
      exact setN_ext.2 fun i hi => Classical.byContradiction fun h => hn2 ⟨i, hi, h⟩
    obtain ⟨i, hi, h⟩ := this
    by_cases hg : Cn fs (atN fs (v : Int)) (x : Int) (i : Int)
    · have hiv := at_away hv hg (by omega)
      exact absurd (by rw [pb_true hg, pb_true (hg.mono fun i _ => Nat.zero_testBit i), decide_eq_false (by omega : ¬ i = v)]; rfl) h
    · by_cases h0 : Cn fs 0 (x : Int) (i : Int) ∧ i ≠ v
      · exact spl_any hx hi ⟨by omega, by omega, h0.1, hg⟩
      · refine absurd ?_ h
        rw [pb_false hg]
        by_cases e : i = v
        · rw [decide_eq_true e]; simp
        · rw [pb_false fun hc => h0 ⟨hc, e⟩]; rfl
  · rintro ⟨a, b, hab, hb, ha1, hb1, h0, hg⟩
    refine ⟨a, by omega, by omega, fun e => ?_⟩
    unfold rchN at e
    rw [clr_set hn] at e
    have h1 := setN_ext.1 e b hb
    rw [pb_false hg, pb_true h0, decide_eq_false (by omega : ¬ b = v)] at h1
    cases h1
theorem cutQ_no {ss : List ByteArray} {fs : List Q4} (hv : netP ss fs) {n1 v : Nat} (hn : n1 ≤ 8) (h : ∀ x : Nat, x < n1 → x = v ∨ rchN n1 fs (atN fs (v : Int)) (x : Int) = clrN (rchN n1 fs 0 (x : Int)) v) : cutQ n1 fs v = false := by
  unfold cutQ
  exact pb_false fun hs => by
    obtain ⟨x, hx, hxv, hne⟩ := (cut_iff hv hn).2 hs
    rcases h x hx with e | e
    · exact hxv e
    · exact hne e
theorem cutQ_yes {ss : List ByteArray} {fs : List Q4} (hv : netP ss fs) {n1 v x : Nat} (hn : n1 ≤ 8) (hx : x < n1) (hxv : x ≠ v) (h : rchN n1 fs (atN fs (v : Int)) (x : Int) ≠ clrN (rchN n1 fs 0 (x : Int)) v) : cutQ n1 fs v = true := by
  unfold cutQ
  exact pb_true ((cut_iff hv hn).1 ⟨x, hx, hxv, h⟩)
set_option maxRecDepth 100000 in
set_option maxHeartbeats 8000000 in
theorem implCN {g1 g2 n1 n2 c1 c2 : Nat} {ss : List ByteArray} {fs : List Q4} {w : World} (h : NetAt g1 g2 n1 n2 c1 c2 ss fs w) :
    Calls Try.prog 60 #[.agg #[.slice (some ⟨g1, 0, none⟩) n1 c1, .slice (some ⟨g2, 0, none⟩) n2 c2]] w (IntsP (selV (netP ss fs) (cutQ n1 fs) n1) (pb (netP ss fs)) w) := by
  have HNT := Lib.hid h
  have HL2 := Lib.hid h.ln2
  have hs2 := h.sm2
  clear h
  have HL1 := Lib.hid HNT.out.ln1
  obtain ⟨RL, hRL⟩ : ∃ r, selV (netP ss fs) (cutQ n1 fs) n1 = r := ⟨_, rfl⟩
  obtain ⟨RB, hRB⟩ : ∃ r, pb (netP ss fs) = r := ⟨_, rfl⟩
  have HNO : Hid (¬ netP ss fs → RL = [] ∧ RB = false) := Lib.hid (fun e => by rw [← hRL, ← hRB]; exact selV_no e)
  have HYES : Hid (netP ss fs → RL = selK (cutQ n1 fs) n1 ∧ RB = true) := Lib.hid (fun e => by rw [← hRL, ← hRB]; exact selV_yes e)
  rw [hRL, hRB]
  clear hRL
  go_enter Try.func60, Try.ntmps60
  go_wp2_with fail
  go_step3
  go_wp2_with fail
  obtain ⟨W0, hW0⟩ : ∃ W0, (w.alloc (Obj.cells #[.slice (some ⟨g1, 0, none⟩) n1 c1, .slice (some ⟨g2, 0, none⟩) n2 c2] 32)) = W0 := ⟨_, rfl⟩
  have hb0 : Below w.heap.size w W0 := by rw [← hW0]; exact (Below.refl _ _).alloc (Nat.le_refl _) _
  have hk0 : W0.cell? ⟨w.heap.size, 0, none⟩ = some (.slice (some ⟨g1, 0, none⟩) n1 c1) := by rw [← hW0]; simp [go_sem]
  have hk1 : W0.cell? ⟨w.heap.size, 1, none⟩ = some (.slice (some ⟨g2, 0, none⟩) n2 c2) := by rw [← hW0]; simp [go_sem]
  have hz0 : w.heap.size < W0.heap.size := by rw [← hW0]; simp
  have HB0 := Lib.hid hb0; have HK0 := Lib.hid hk0; have HK1 := Lib.hid hk1; have HZB := Lib.hid hz0
  rw [hW0]
  clear hW0 hb0
  clear hk0 hk1 hz0
  refine (implNet_ (HNT.out.moved HB0.out)).mono ?_
  rw [hRB]
  rintro e w1 ⟨rfl, hb1⟩
  have HB1 := Lib.hid (HB0.out.trans (hb1.mono HB0.out.size))
  have k0 := (hb1.cell (p := ⟨w.heap.size, 0, none⟩) (by show w.heap.size < _; have := HZB.out; omega)).trans HK0.out
  have HK0b := Lib.hid k0
  have HK1b := Lib.hid ((hb1.cell (p := ⟨w.heap.size, 1, none⟩) (by show w.heap.size < _; have := HZB.out; omega)).trans HK1.out)
  have hz1 : w.heap.size < w1.heap.size := by have := HZB.out; have := hb1.size; omega
  have HZ1 := Lib.hid hz1
  clear hb1
  cases RB
  case false =>
    have HE := Lib.hid (HNO.out (of_npb hRB))
    clear hRB
    go_wp2
    go_ret2
    exact ints_no ⟨HE.out.1, rfl⟩ HB1.out
  case true =>
  have hv := of_pb hRB
  have HV := Lib.hid hv
  have HE := Lib.hid (HYES.out hv)
  have hn8 : n1 ≤ 8 := by have := hv.1; have := HL1.out; omega
  clear hRB hv
  go_wp2
  go_step3
  go_wp2_with fail
  clear k0 hz1
  go_loopw [4, 16] (fun v i wr => ∃ (k : Nat) (A1 : Option Addr) (N1 d1 : Nat), k ≤ n1 ∧ i = .int .i64 k ∧ v = .slice A1 N1 d1 ∧ N1 ≤ k ∧ Hid (N1 = (selK (cutQ n1 fs) k).length) ∧ Hid (wr.ownsRow w1.heap.size 3 1 (.slice A1 N1 d1) N1 ((selK (cutQ n1 fs) k).map (Value.int .i64))) ∧ Below w1.heap.size w1 wr) (fun _ i _ => n1 - (intOf i).toNat)
  case atStart => exact ⟨0, none, 0, 0, Nat.zero_le _, rfl, rfl, Nat.le_refl _, Lib.hid rfl, Lib.hid (World.ownsRow_nil _ _ _ _), Below.refl _ _⟩
  case round =>
    obtain ⟨k, A1, N1, d1, hk, rfl, rfl, hNk, HN1, HOW, hb⟩ := hrel
    have HBR := Lib.hid hb
    have HBW := Lib.hid (HB1.out.trans (hb.mono HB1.out.size))
    have HSR := Lib.hid hb.size
    have l0 := (hb.cell (p := ⟨w.heap.size, 0, none⟩) HZ1.out).trans HK0b.out
    have l1 := (hb.cell (p := ⟨w.heap.size, 1, none⟩) HZ1.out).trans HK1b.out
    have hg0 : w.heap.size < wr.heap.size := by have := HZ1.out; have := hb.size; omega
    clear hb
    by_cases hlt : k < n1
    case neg =>
      have HF : Hid (RL = selK (cutQ n1 fs) k) := Lib.hid (by rw [HE.out.1, show n1 = k by omega])
      clear l0 l1 hg0
      go_wp2
      go_ret2
      rw [HF.out]
      exact ⟨A1, N1, d1, rfl, HN1, own_base HOW.out HB1.out.size, HBW.out⟩
    case pos =>
    have CAT : Hid (Calls Try.prog 148 #[.agg #[.slice (some ⟨g1, 0, none⟩) n1 c1, .slice (some ⟨g2, 0, none⟩) n2 c2], .int .i64 (k : Int)] wr (IntsP (atK fs (k : Int) fs.length) true wr)) := Lib.hid (by
      have h9 := implAt (HNT.out.moved HBW.out) (k : Int)
      obtain ⟨e1, e2⟩ := at_yes (ss := ss) (fs := fs) (x := (k : Int)) ⟨HV.out, by omega, by have := HL1.out; omega⟩
      rw [e1, e2] at h9
      exact h9)
    have HBDA := Lib.hid (at_bd HV.out (k : Int))
    have hg20 : atN fs (k : Int) < 2 ^ 20 := maskU_lt HBDA.out
    have HALEN := Lib.hid (atK_len fs (k : Int) fs.length)
    have HGN : Hid (atN fs (k : Int) = maskN (atK fs (k : Int) fs.length) (atK fs (k : Int) fs.length).length) := Lib.hid rfl
    have HQN := Lib.hid (fun (h : ∀ x : Nat, x < n1 → x = k ∨ rchN n1 fs (atN fs (k : Int)) (x : Int) = clrN (rchN n1 fs 0 (x : Int)) k) => cutQ_no HV.out hn8 h)
    have HQY := Lib.hid (fun (x : Nat) (hx : x < n1) (hxv : x ≠ k) (h : rchN n1 fs (atN fs (k : Int)) (x : Int) ≠ clrN (rchN n1 fs 0 (x : Int)) k) => cutQ_yes HV.out hn8 hx hxv h)
    obtain ⟨al, hal⟩ : ∃ al, atK fs (k : Int) fs.length = al := ⟨_, rfl⟩
    obtain ⟨g, hg⟩ : ∃ g, atN fs (k : Int) = g := ⟨_, rfl⟩
    rw [hal] at CAT HBDA HALEN HGN
    rw [hg] at hg20 HGN HQN HQY
    have HG20 := Lib.hid hg20
    clear hal hg hg20
    go_wp2_with fail
    clear l0 l1 hg0
    refine CAT.out.mono ?_
    rintro e w2 ⟨AE, NE, dE, rfl, HNE, hoE, hb2⟩
    have HB2 := Lib.hid (HBR.out.trans (hb2.mono HSR.out))
    have HO2 := Lib.hid (ownB HOW.out hb2)
    have HRE := Lib.hid (Rd.ofOwn hoE)
    have l0 := (HB2.out.cell (p := ⟨w.heap.size, 0, none⟩) HZ1.out).trans HK0b.out
    have hg0 : w.heap.size < w2.heap.size := by have := HZ1.out; have := HB2.out.size; omega
    have hNE : NE ≤ 1048576 := by have := HNE.out; have := HALEN.out; have := HV.out.2.1; omega
    clear hb2 hoE
    go_wp2
    clear l0 hg0
    obtain ⟨wo, rfl⟩ : ∃ wo, wo = wr := ⟨wr, rfl⟩
    go_loopw [4, 28] (fun v i wr => ∃ x : Nat, v = .slice A1 N1 d1 ∧ x ≤ n1 ∧ i = .int .i64 x ∧ Hid (∀ y : Nat, y < x → y = k ∨ rchN n1 fs g (y : Int) = clrN (rchN n1 fs 0 (y : Int)) k) ∧ Below w2.heap.size w2 wr) (fun _ i _ => n1 - (intOf i).toNat)
    case atStart => exact ⟨0, rfl, Nat.zero_le _, rfl, Lib.hid (fun y hy => by omega), Below.refl _ _⟩
    case round =>
      obtain ⟨x, rfl, hx, rfl, HX, hb⟩ := hrel
      have HB2W := Lib.hid hb
      have HBV := Lib.hid (HB2.out.trans (hb.mono HB2.out.size))
      have HSV := Lib.hid (HB2.out.trans (hb.mono HB2.out.size)).size
      have HS2 := Lib.hid hb.size
      clear hb
      by_cases hlt2 : x < n1
      case neg =>
        have HQF : Hid (cutQ n1 fs k = false) := Lib.hid (HQN.out (fun y hy => HX.out y (by omega)))
        have HTO := Lib.hid (sel_out HQF.out)
        have HN2 : Hid (N1 = (selK (cutQ n1 fs) (k + 1)).length) := Lib.hid (by rw [HTO.out]; exact HN1.out)
        have HO3 : Hid (wr.ownsRow w1.heap.size 3 1 (.slice A1 N1 d1) N1 ((selK (cutQ n1 fs) (k + 1)).map (Value.int .i64))) := Lib.hid (by rw [HTO.out]; exact ownB HO2.out HB2W.out)
        go_wp2
        go_roundw
        case rel => exact ⟨k + 1, A1, N1, d1, by omega, by go_num, rfl, by omega, HN2, HO3, HBV.out⟩
        case measure => simp [intOf]; omega
      case pos =>
      have FACTS : Hid (∀ W, Below wr.heap.size wr W → Below w.heap.size w W ∧ W.cell? ⟨w.heap.size, 0, none⟩ = some (.slice (some ⟨g1, 0, none⟩) n1 c1) ∧ W.cell? ⟨w.heap.size, 1, none⟩ = some (.slice (some ⟨g2, 0, none⟩) n2 c2) ∧ Below w2.heap.size w2 W) := Lib.hid (fun W hW => by
        have h9 := HBV.out.trans (hW.mono HSV.out)
        exact ⟨HB1.out.trans (h9.mono HB1.out.size), (h9.cell (p := ⟨w.heap.size, 0, none⟩) HZ1.out).trans HK0b.out, (h9.cell (p := ⟨w.heap.size, 1, none⟩) HZ1.out).trans HK1b.out, HB2W.out.trans (hW.mono HS2.out)⟩)
      obtain ⟨T, f, x0, hx0, hTT, HST⟩ := above wr
      haveI : Nonempty T := ⟨x0⟩
      have s0 : ∀ x, (f x).cell? ⟨w.heap.size, 0, none⟩ = some (.slice (some ⟨g1, 0, none⟩) n1 c1) := fun x => (FACTS.out _ (hTT x)).2.1
      have s1 : ∀ x, (f x).cell? ⟨w.heap.size, 1, none⟩ = some (.slice (some ⟨g2, 0, none⟩) n2 c2) := fun x => (FACTS.out _ (hTT x)).2.2.1
      have CB : Hid (∀ t, Calls Try.prog 144 #[.agg #[.slice (some ⟨g1, 0, none⟩) n1 c1, .slice (some ⟨g2, 0, none⟩) n2 c2], .int .i64 (x : Int), .int .i64 0] (f t) (RetP (.int .i64 (rchN n1 fs 0 (x : Int) : Nat)) (f t))) := Lib.hid fun t => reach_ (HNT.out.moved (FACTS.out _ (hTT t)).1) HV.out x 0 hlt2 (by omega)
      have hq8 : rchN n1 fs 0 (x : Int) < 2 ^ 8 := Nat.lt_of_lt_of_le (setN_lt _ _) (Nat.pow_le_pow_right (by decide) hn8)
      have HT1 : Hid (∀ x, Below wr.heap.size wr (f x)) := Lib.hid hTT
      have HXX := Lib.hid hx0
      have HXE : Hid ((x = k ∨ rchN n1 fs g (x : Int) = clrN (rchN n1 fs 0 (x : Int)) k) → ∀ y : Nat, y < x + 1 → y = k ∨ rchN n1 fs g (y : Int) = clrN (rchN n1 fs 0 (y : Int)) k) := Lib.hid (fun e y hy => by
        by_cases h : y = x
        · subst h; exact e
        · exact HX.out y (by omega))
      have HQX := Lib.hid (HQY.out x hlt2)
      obtain ⟨p, hp⟩ : ∃ p, rchN n1 fs g (x : Int) = p := ⟨_, rfl⟩
      have HPV := Lib.hid hp
      obtain ⟨q, hq⟩ : ∃ q, rchN n1 fs 0 (x : Int) = q := ⟨_, rfl⟩
      rw [hp] at HQX HXE
      rw [hq] at CB HQX HXE hq8
      have han := andNot_i64 q k hq8 (by omega)
      have hcl : clrN q k < 2 ^ 8 := Nat.lt_of_le_of_lt Nat.and_le_left hq8
      obtain ⟨r, hr⟩ : ∃ r, clrN q k = r := ⟨_, rfl⟩
      rw [hr] at han HQX HXE hcl
      have hpw1 : (2 : Int) ^ k ≤ 256 := by rw [pow_int]; have : 2 ^ k < 2 ^ 8 := Nat.pow_lt_pow_right (by decide) (by omega); omega
      have hpw0 : 0 ≤ (2 : Int) ^ k := Int.pow_nonneg (by omega)
      clear hTT hx0 hp hq hr
      go_wp2_with fail
      refine wp_region_class f (by kernel_rfl) (by kernel_rfl) x0 HXX.out ?_
      repeat (go_big_quiet_step ((go_at_call 144; exact Calls.inClass HST (CB.out _))))
      refine wpQuiet_nil ?_
      rintro _ ⟨t, rfl⟩
      have HBT := Lib.hid (HT1.out t)
      clear s0 s1 hpw1 hpw0 han hq8
      generalize f t = wq at HBT ⊢
      clear HT1 HST CB HXX
      obtain ⟨T, f, x0, hx0, hTT, HST⟩ := above wq
      haveI : Nonempty T := ⟨x0⟩
      have HTQ : Hid (∀ x, Below wr.heap.size wr (f x)) := Lib.hid (fun x => HBT.out.trans ((hTT x).mono HBT.out.size))
      have s0 : ∀ x, (f x).cell? ⟨w.heap.size, 0, none⟩ = some (.slice (some ⟨g1, 0, none⟩) n1 c1) := fun x => (FACTS.out _ (HTQ.out x)).2.1
      have s1 : ∀ x, (f x).cell? ⟨w.heap.size, 1, none⟩ = some (.slice (some ⟨g2, 0, none⟩) n2 c2) := fun x => (FACTS.out _ (HTQ.out x)).2.2.1
      have CA : Hid (∀ t, Calls Try.prog 144 #[.agg #[.slice (some ⟨g1, 0, none⟩) n1 c1, .slice (some ⟨g2, 0, none⟩) n2 c2], .int .i64 (x : Int), .int .i64 (g : Int)] (f t) (RetP (.int .i64 (p : Nat)) (f t))) := Lib.hid fun t => by rw [← HPV.out]; exact reach_ (HNT.out.moved (FACTS.out _ (HTQ.out t)).1) HV.out x g hlt2 HG20.out
      have CM : Hid (∀ t, Calls Try.prog 139 #[.slice AE NE dE] (f t) (RetP (.int .i64 (g : Nat)) (f t))) := Lib.hid fun t => by
        refine (maskOf_ AE NE dE al (f t) HNE.out.symm hNE (HRE.out.moved (FACTS.out _ (HTQ.out t)).2.2.2) (fun j hj => HBDA.out j (by have := HNE.out; omega))).mono ?_
        rintro e w' ⟨rfl, rfl⟩
        exact ⟨by rw [HGN.out, HNE.out], Below.refl _ _⟩
      have HXX := Lib.hid hx0
      have hp8 : (p : Int) ≤ 256 := by rw [← HPV.out]; have : rchN n1 fs g (x : Int) < 2 ^ 8 := Nat.lt_of_lt_of_le (setN_lt _ _) (Nat.pow_le_pow_right (by decide) hn8); omega
      clear hTT hx0
      by_cases hxk : x = k
      case pos =>
        have HX2 := Lib.hid (HXE.out (.inl hxk))
        have p1 : ((x : Int) != (k : Int)) = false := by simp; omega
        clear hxk
        go_wp2_with fail
        refine wp_region_class f (by kernel_rfl) (by kernel_rfl) x0 HXX.out ?_
        repeat (go_big_quiet_step (fail))
        refine wpQuiet_nil ?_
        rintro _ ⟨t, rfl⟩
        have HB3 := Lib.hid (FACTS.out _ (HTQ.out t)).2.2.2
        clear s0 s1
        go_wp2
        go_roundw
        case rel => exact ⟨x + 1, rfl, by omega, by go_num, HX2, HB3.out⟩
        case measure => simp [intOf]; omega
      case neg =>
      have p1 : ((x : Int) != (k : Int)) = true := by simp; omega
      by_cases hpq : p = r
      case pos =>
        have HX2 := Lib.hid (HXE.out (.inr hpq))
        have p2 : ((p : Int) != (r : Int)) = false := by simp; omega
        clear hxk hpq
        go_wp2_with fail
        refine wp_region_class f (by kernel_rfl) (by kernel_rfl) x0 HXX.out ?_
        repeat (go_big_quiet_step (first | (go_at_call 144; exact Calls.inClass HST (CA.out _)) | (go_at_call 139; exact Calls.inClass HST (CM.out _))))
        refine wpQuiet_nil ?_
        rintro _ ⟨t, rfl⟩
        have HB3 := Lib.hid (FACTS.out _ (HTQ.out t)).2.2.2
        clear s0 s1
        go_wp2
        go_roundw
        case rel => exact ⟨x + 1, rfl, by omega, by go_num, HX2, HB3.out⟩
        case measure => simp [intOf]; omega
      case neg =>
        have HQT := Lib.hid (HQX.out hxk hpq)
        have HTO := Lib.hid (sel_in HQT.out)
        have p2 : ((p : Int) != (r : Int)) = true := by simp; omega
        clear hxk hpq
        go_wp2_with fail
        refine wp_region_class f (by kernel_rfl) (by kernel_rfl) x0 HXX.out ?_
        repeat (go_big_quiet_step (first | (go_at_call 144; exact Calls.inClass HST (CA.out _)) | (go_at_call 139; exact Calls.inClass HST (CM.out _))))
        refine wpQuiet_nil ?_
        rintro _ ⟨t, rfl⟩
        have HB3 := Lib.hid (HBV.out.trans ((HTQ.out t).mono HSV.out))
        have HO3 := Lib.hid (ownB HO2.out (FACTS.out _ (HTQ.out t)).2.2.2)
        clear s0 s1
        generalize f t = wz at HB3 HO3 ⊢
        have hszq := HB3.out.size
        go_wp2_with (at_builtin; refine wp_app rfl (.tmp 49) (.tmp 51) 39 3 rfl w1.heap.size Try.underlying39 Try.inf_int rfl (by decide) (by decide) _ N1 _ rfl (HO3.out.alloc _) _ _ [.int .i64 (k : Int)] rfl rfl (news1 (new_at_ _ _ _ _ rfl)) (news_int _) (by omega) (by simp; omega) ?_)
        intro A3 d3 N3 w4 hN3 hown3 hgrow3 hloc3
        have HB4 := Lib.hid ((HB3.out.alloc hszq _).grown hgrow3 (by simp; omega) (fun g hg => (HO3.out.lt g hg).1))
        have HO4 : Hid (w4.ownsRow w1.heap.size 3 1 (.slice A3 N3 d3) N3 ((selK (cutQ n1 fs) (k + 1)).map (Value.int .i64))) := Lib.hid (by rw [HTO.out, List.map_append]; exact hown3)
        have HN4 := Lib.hid (sel_pushed HQT.out HN1.out hN3)
        have hN5 : N3 ≤ k + 1 := by omega
        clear hown3 hgrow3 hloc3 hN3
        go_wp2
        go_roundw
        case rel => exact ⟨k + 1, A3, N3, d3, by omega, by go_num, rfl, hN5, HN4, HO4, HB4.out⟩
        case measure => simp [intOf]; omega
end Go.Proofs.Ytcbjdfgmkiodkaa
