/- A fiber more: the specification's contract. No condition but those typed. -/
import Derived.Test.YtkpendpjdemknaaAfI
import Derived.Test.YtkpendpjdemknaaL2Own
import Derived.Test.YtkpendpjdemknaaLtV
import Derived.Deep.RegionLaw
import Derived.Deep.RegionHeld3
import Derived.BigRegion
namespace Go.Proofs.Ytkpendpjdemknaa
open Go.ChangeShapes Go.WideShapes Go.ChangeAt Go.RowKit

theorem far4 {w w' : World} {row : Option Nat} (hg : w.grownBy w' row) {b : Nat} {xs : List Value} (hc : ∀ (j : Nat) (u : Value), xs[j]? = some u → w.cell? ((⟨b, 0, none⟩ : Addr).add j) = some u) (hlt : b < w.heap.size) (hne : some b ≠ row) : ∀ (j : Nat) (u : Value), xs[j]? = some u → w'.cell? ((⟨b, 0, none⟩ : Addr).add j) = some u := fun j u h => (hg.cell_far _ (by rw [addBlock]; exact hlt) (by rw [addBlock]; exact hne)).trans (hc j u h)
theorem over_alloc {W : World} {o : Obj} {b : Nat} {xs : List Value} (hc : ∀ (j : Nat) (u : Value), xs[j]? = some u → W.cell? ((⟨b, 0, none⟩ : Addr).add j) = some u) (hb : b < W.heap.size) : ∀ (j : Nat) (u : Value), xs[j]? = some u → (W.alloc o).cell? ((⟨b, 0, none⟩ : Addr).add j) = some u := fun j u h => (((Below.refl W.heap.size W).alloc (Nat.le_refl _) o).cell (by rw [addBlock]; exact hb)).trans (hc j u h)
theorem bA1 (w : World) (o : Obj) : Below w.heap.size w (w.alloc o).drew := ((Below.refl _ _).alloc (Nat.le_refl _) _).drew
theorem bA2 (w : World) (o p : Obj) : Below w.heap.size w ((w.alloc o).alloc p).drew := (((Below.refl _ _).alloc (Nat.le_refl _) _).alloc (by simp) _).drew
theorem litA1 (w : World) (E : TypeId) : (w.alloc (Obj.cells #[] E)).drew.ownsRow w.heap.size E 4 (.slice (some ⟨w.heap.size, 0, none⟩) 0 0) 0 [] := lit_own (b := w.heap.size) (nh rfl) (Nat.le_refl _)
theorem litA2 (w : World) (E : TypeId) (p : Obj) : ((w.alloc (Obj.cells #[] E)).alloc p).drew.ownsRow w.heap.size E 4 (.slice (some ⟨w.heap.size, 0, none⟩) 0 0) 0 [] := lit_own (b := w.heap.size) ((oh (by simp)).trans (nh rfl)) (Nat.le_refl _)
theorem litA3 (w : World) (E : TypeId) (p : Obj) : ((w.alloc p).alloc (Obj.cells #[] E)).drew.ownsRow w.heap.size E 4 (.slice (some ⟨w.heap.size + 1, 0, none⟩) 0 0) 0 [] := lit_own (b := w.heap.size + 1) (nh (by simp)) (Nat.le_succ _)
theorem nwA1 (w : World) (o : Obj) (E : TypeId) (a b c d : Value) : ∀ (j : Nat) (u : Value), [a, b, c, d][j]? = some u → ((w.alloc o).alloc (.cells #[a, b, c, d] E)).drew.cell? ((⟨w.heap.size + 1, 0, none⟩ : Addr).add j) = some u := new_fourA (w.alloc o) E a b c d (w.heap.size + 1) (by simp)
theorem nwA2 (w : World) (o : Obj) (E : TypeId) (a b c d : Value) : ∀ (j : Nat) (u : Value), [a, b, c, d][j]? = some u → ((w.alloc (.cells #[a, b, c, d] E)).alloc o).drew.cell? ((⟨w.heap.size, 0, none⟩ : Addr).add j) = some u := over_alloc (new_fourA w E a b c d w.heap.size rfl) (by simp)
theorem szA1 (w : World) (o p : Obj) : w.heap.size + 1 < ((w.alloc o).alloc p).drew.heap.size := by show _ < ((w.alloc o).alloc p).heap.size; simp
theorem szA2 (w : World) (o p : Obj) : w.heap.size < ((w.alloc o).alloc p).drew.heap.size := by show _ < ((w.alloc o).alloc p).heap.size; simp; omega
theorem af_own {X : World} {B1 b E s n : Nat} {v x y u : Value} {xs : List Value} (h : X.ownsRow B1 E s v n xs) (hX : X.ownsRow b 31 2 (.slice (some ⟨b, 0, none⟩) 1 1) 1 [x, y]) (hE : E ≠ 31) : (X.setCell ⟨b, 1, none⟩ u).ownsRow B1 E s v n xs :=
  own_offV h (off1 _) (fun g hg e => by subst e; exact own_type_apart h hX hE _ hg rfl)

set_option maxRecDepth 100000 in
set_option maxHeartbeats 16000000 in
theorem specAF {g1 g2 n1 n2 c1 : Nat} {ss : List ByteArray} {fs : List Q4} {w : World} (h : NetAt g1 g2 n1 n2 c1 n2 ss fs w) (f : Q4) :
    Calls Try.prog 11 #[.agg #[.slice (some ⟨g1, 0, none⟩) n1 c1, .slice (some ⟨g2, 0, none⟩) n2 n2], .agg #[.int .i64 f.a, .int .i64 f.b, .int .i64 f.c, .int .i64 f.d]] w (NfI (afLS ss fs f) (afLF ss fs f) (afI ss fs f) (pb (afP ss fs f)) w) := by
  have HNT := Lib.hid h; have HL1 := Lib.hid h.ln1; have HL2 := Lib.hid h.ln2
  clear h
  obtain ⟨LS, hLS⟩ : ∃ r, afLS ss fs f = r := ⟨_, rfl⟩
  obtain ⟨LF, hLF⟩ : ∃ r, afLF ss fs f = r := ⟨_, rfl⟩
  obtain ⟨LV, hLV⟩ : ∃ r, afI ss fs f = r := ⟨_, rfl⟩
  obtain ⟨RB, hRB⟩ : ∃ r, pb (afP ss fs f) = r := ⟨_, rfl⟩
  have HNO : Hid (¬ afP ss fs f → LS = [] ∧ LF = [] ∧ LV = 0 ∧ RB = false) := Lib.hid (fun e => by rw [← hLS, ← hLF, ← hLV, ← hRB]; exact af_no e)
  have HYES : Hid (afP ss fs f → LS = ss ∧ LF = afF fs f ∧ LV = (posF f fs : Int) ∧ RB = true) := Lib.hid (fun e => by rw [← hLS, ← hLF, ← hLV, ← hRB]; exact af_yes e)
  rw [hLS, hLF, hLV, hRB]
  clear hLS hLF hLV hRB
  have HPN : Hid (∀ k, posF f fs = k → k ≤ fs.length ∧ afF fs f = fs.take k ++ f :: fs.drop k) := Lib.hid (fun k hk => by subst hk; exact ⟨posF_le f fs, rfl⟩)
  have HPI : Hid (∀ k (hk : k ≤ fs.length), (∀ j (hj : j < k), leF (fs[j]'(by omega)) f) → (∀ h : k < fs.length, ¬ leF fs[k] f) → posF f fs = k) := Lib.hid (fun k hk => posF_is hk)
  go_enter Try.func11, Try.ntmps11
  go_wp2_with fail
  obtain ⟨W0, hW0⟩ : ∃ W0, ((w.alloc (Obj.cells #[.slice (some ⟨g1, 0, none⟩) n1 c1, .slice (some ⟨g2, 0, none⟩) n2 n2] 31)).alloc (Obj.cells #[.int .i64 f.a, .int .i64 f.b, .int .i64 f.c, .int .i64 f.d] 35)).alloc (Obj.cells #[.slice none 0 0, .slice none 0 0] 31) = W0 := ⟨_, rfl⟩
  have hb0 : Below w.heap.size w W0 := by rw [← hW0]; exact (((Below.refl _ _).alloc (Nat.le_refl _) _).alloc (by simp) _).alloc (by simp; omega) _
  have k0 : W0.cell? ⟨w.heap.size, 0, none⟩ = some (.slice (some ⟨g1, 0, none⟩) n1 c1) := by rw [← hW0]; simp [go_sem]
  have k1 : W0.cell? ⟨w.heap.size, 1, none⟩ = some (.slice (some ⟨g2, 0, none⟩) n2 n2) := by rw [← hW0]; simp [go_sem]
  have k2 : W0.cell? ⟨w.heap.size + 1, 0, none⟩ = some (.int .i64 f.a) := by rw [← hW0]; simp [go_sem]
  have k3 : W0.cell? ⟨w.heap.size + 1, 1, none⟩ = some (.int .i64 f.b) := by rw [← hW0]; simp [go_sem]
  have k4 : W0.cell? ⟨w.heap.size + 1, 2, none⟩ = some (.int .i64 f.c) := by rw [← hW0]; simp [go_sem]
  have k5 : W0.cell? ⟨w.heap.size + 1, 3, none⟩ = some (.int .i64 f.d) := by rw [← hW0]; simp [go_sem]
  have HR0 : Hid (W0.ownsRow (w.heap.size + 2) 31 2 (.slice (some ⟨w.heap.size + 2, 0, none⟩) 1 1) 1 [.slice none 0 0, .slice none 0 0]) := Lib.hid (by
    rw [← hW0]
    have := one_rowN ((w.alloc (Obj.cells #[.slice (some ⟨g1, 0, none⟩) n1 c1, .slice (some ⟨g2, 0, none⟩) n2 n2] 31)).alloc (Obj.cells #[.int .i64 f.a, .int .i64 f.b, .int .i64 f.c, .int .i64 f.d] 35)) (.slice none 0 0) (.slice none 0 0) (base := w.heap.size + 2) (by simp)
    simpa using this)
  have hz0 : W0.heap.size = w.heap.size + 3 := by rw [← hW0]; simp
  have HB0 := Lib.hid hb0; have HZ0 := Lib.hid hz0
  have HK : Hid (∀ u, Below W0.heap.size W0 u → (u.cell? ⟨w.heap.size, 0, none⟩ = some (.slice (some ⟨g1, 0, none⟩) n1 c1) ∧ u.cell? ⟨w.heap.size, 1, none⟩ = some (.slice (some ⟨g2, 0, none⟩) n2 n2) ∧ w.heap.size < u.heap.size) ∧ u.cell? ⟨w.heap.size + 1, 0, none⟩ = some (.int .i64 f.a) ∧ u.cell? ⟨w.heap.size + 1, 1, none⟩ = some (.int .i64 f.b) ∧ u.cell? ⟨w.heap.size + 1, 2, none⟩ = some (.int .i64 f.c) ∧ u.cell? ⟨w.heap.size + 1, 3, none⟩ = some (.int .i64 f.d) ∧ w.heap.size + 1 < u.heap.size) := Lib.hid fun u hu => by
    have hs := hu.size
    exact ⟨⟨(hu.cell (p := ⟨w.heap.size, 0, none⟩) (by show w.heap.size < _; omega)).trans k0, (hu.cell (p := ⟨w.heap.size, 1, none⟩) (by show w.heap.size < _; omega)).trans k1, by omega⟩, (hu.cell (p := ⟨w.heap.size + 1, 0, none⟩) (by show w.heap.size + 1 < _; omega)).trans k2, (hu.cell (p := ⟨w.heap.size + 1, 1, none⟩) (by show w.heap.size + 1 < _; omega)).trans k3, (hu.cell (p := ⟨w.heap.size + 1, 2, none⟩) (by show w.heap.size + 1 < _; omega)).trans k4, (hu.cell (p := ⟨w.heap.size + 1, 3, none⟩) (by show w.heap.size + 1 < _; omega)).trans k5, by omega⟩
  have HS : Hid (∀ u, Below W0.heap.size W0 u → u.cell? ⟨w.heap.size + 2, 0, none⟩ = some (.slice none 0 0) ∧ u.cell? ⟨w.heap.size + 2, 1, none⟩ = some (.slice none 0 0) ∧ u.frozen? ⟨w.heap.size + 2, 0, none⟩ = false ∧ u.frozen? ⟨w.heap.size + 2, 1, none⟩ = false ∧ w.heap.size + 2 < u.heap.size) := Lib.hid fun u hu => nx_facts (ownB HR0.out hu)
  rw [hW0]
  clear hW0 hb0 k0 k1 k2 k3 k4 k5 hz0
  have CG := Lib.hid (specNet_ (HNT.out.moved HB0.out))
  obtain ⟨b, hb⟩ : ∃ b, pb (netP ss fs) = b := ⟨_, rfl⟩
  rw [hb] at CG
  have HPB := Lib.hid hb
  clear hb
  refine CG.out.mono ?_
  rintro e w1 ⟨rfl, hb1⟩
  have HB1 := Lib.hid hb1
  have HB1W := Lib.hid (HB0.out.trans (hb1.mono HB0.out.size))
  clear hb1
  cases b
  case false =>
    have HNB := Lib.hid (HNO.out (fun hp => of_npb HPB.out hp.1))
    obtain ⟨rfl, rfl, rfl, rfl⟩ := HNB.out
    obtain ⟨s0, s1, s2, s3, s4⟩ := HS.out w1 HB1.out
    go_wp2
    refine bodyPost_ret (v := .tuple #[.agg #[.slice none 0 0, .slice none 0 0], .int .i64 0, .bool false]) ?_ rfl ?_
    · simp [results, Try.results11, go_sem, s0, s1, s4]
    · exact NfI_fin (b := w.heap.size + 2) (B := w.heap.size + 3) (by omega) (by omega) rfl rfl (World.ownsRow_nil _ _ _ _) (World.ownsRow_nil _ _ _ _) HB1W.out
  case true =>
  have HP : Hid (netP ss fs) := Lib.hid (of_pb HPB.out)
  have hn14 : n2 ≤ 14 := by have := HP.out.2.1; have := HL2.out; omega
  have hn8 : n1 ≤ 8 := by have := HP.out.1; have := HL1.out; omega
  have CF := Lib.hid (specFib f n1 w1 (by omega))
  obtain ⟨vb, hvb⟩ : ∃ b, pb (fibP f n1) = b := ⟨_, rfl⟩
  rw [hvb] at CF
  have HFB := Lib.hid hvb
  clear hvb
  unfold cells4 at CF
  obtain ⟨⟨k0, k1, k01⟩, k2, k3, k4, k5, k6⟩ := HK.out w1 HB1.out
  go_wp2_with fail
  refine CF.out.mono ?_
  rintro e w2 ⟨rfl, hb2⟩
  have HB2 := Lib.hid (HB1.out.trans (hb2.mono HB1.out.size))
  have HB2W := Lib.hid (HB0.out.trans (HB2.out.mono HB0.out.size))
  clear hb2 k0 k1 k01 k2 k3 k4 k5 k6
  obtain ⟨⟨k0, k1, k01⟩, k2, k3, k4, k5, k6⟩ := HK.out w2 HB2.out
  cases vb
  case false =>
    have HNB := Lib.hid (HNO.out (fun hp => of_npb HFB.out (by rw [← HL1.out]; exact hp.2.1)))
    obtain ⟨rfl, rfl, rfl, rfl⟩ := HNB.out
    obtain ⟨s0, s1, s2, s3, s4⟩ := HS.out w2 HB2.out
    clear k2 k3 k4 k5 k6
    go_wp2
    refine bodyPost_ret (v := .tuple #[.agg #[.slice none 0 0, .slice none 0 0], .int .i64 0, .bool false]) ?_ rfl ?_
    · simp [results, Try.results11, go_sem, s0, s1, s4]
    · exact NfI_fin (b := w.heap.size + 2) (B := w.heap.size + 3) (by omega) (by omega) rfl rfl (World.ownsRow_nil _ _ _ _) (World.ownsRow_nil _ _ _ _) HB2W.out
  case true =>
  have HFP : Hid (fibP f n1) := Lib.hid (of_pb HFB.out)
  by_cases h14 : n2 = 14
  case pos =>
    have HNB := Lib.hid (HNO.out (fun hp => hp.2.2 (by rw [HL2.out]; exact h14)))
    obtain ⟨rfl, rfl, rfl, rfl⟩ := HNB.out
    obtain ⟨s0, s1, s2, s3, s4⟩ := HS.out w2 HB2.out
    subst h14
    clear k2 k3 k4 k5 k6
    go_wp2
    refine bodyPost_ret (v := .tuple #[.agg #[.slice none 0 0, .slice none 0 0], .int .i64 0, .bool false]) ?_ rfl ?_
    · simp [results, Try.results11, go_sem, s0, s1, s4]
    · exact NfI_fin (b := w.heap.size + 2) (B := w.heap.size + 3) (by omega) (by omega) rfl rfl (World.ownsRow_nil _ _ _ _) (World.ownsRow_nil _ _ _ _) HB2W.out
  case neg =>
  have HYB := Lib.hid (HYES.out ⟨HP.out, by rw [HL1.out]; exact HFP.out, by rw [HL2.out]; exact h14⟩)
  have h14I : ¬ (n2 : Int) = 14 := by omega
  have h14B : ((n2 : Int) == 14) = false := beq_eq_false_iff_ne.2 h14I
  have HSF := Lib.hid (fibP.small HFP.out (by omega))
  obtain ⟨fa, fb, fc, fd⟩ := f
  simp only at *
  go_wp2_with fail
  clear k0 k1 k01 k2 k3 k4 k5 k6 h14 h14I h14B
  go_loopw [7] (fun i wr => ∃ k : Nat, k ≤ n2 ∧ i = .int .i64 (k : Int) ∧ Hid (∀ j (hj : j < k) (hl : j < fs.length), leF fs[j] ⟨fa, fb, fc, fd⟩) ∧ Below W0.heap.size W0 wr) (fun i _ => n2 - (intOf i).toNat)
  case atStart => exact ⟨0, Nat.zero_le _, rfl, Lib.hid (fun j hj => absurd hj (by omega)), HB2.out⟩
  case round =>
    obtain ⟨k, hk, rfl, HALL, hb⟩ := hrel
    have HBR := Lib.hid hb
    clear hb
    obtain ⟨T, F, x0, hx0, hTT, HST⟩ := above wr
    haveI : Nonempty T := ⟨x0⟩
    have HXX := Lib.hid hx0
    have HTX : Hid (∀ x, Below wr.heap.size wr (F x)) := Lib.hid hTT
    clear hTT hx0
    have HBX : Hid (∀ x, Below W0.heap.size W0 (F x)) := Lib.hid (fun x => HBR.out.trans ((HTX.out x).mono HBR.out.size))
    have s1 : ∀ x, (F x).cell? ⟨w.heap.size, 1, none⟩ = some (.slice (some ⟨g2, 0, none⟩) n2 n2) := fun x => (HK.out _ (HBX.out x)).1.2.1
    have s2 : ∀ x, (F x).cell? ⟨w.heap.size + 1, 0, none⟩ = some (.int .i64 fa) := fun x => (HK.out _ (HBX.out x)).2.1
    have s3 : ∀ x, (F x).cell? ⟨w.heap.size + 1, 1, none⟩ = some (.int .i64 fb) := fun x => (HK.out _ (HBX.out x)).2.2.1
    have s4 : ∀ x, (F x).cell? ⟨w.heap.size + 1, 2, none⟩ = some (.int .i64 fc) := fun x => (HK.out _ (HBX.out x)).2.2.2.1
    have s5 : ∀ x, (F x).cell? ⟨w.heap.size + 1, 3, none⟩ = some (.int .i64 fd) := fun x => (HK.out _ (HBX.out x)).2.2.2.2.1
    have s6 : ∀ x, w.heap.size + 1 < (F x).heap.size := fun x => (HK.out _ (HBX.out x)).2.2.2.2.2
    have s7 : ∀ x, w.heap.size < (F x).heap.size := fun x => (HK.out _ (HBX.out x)).1.2.2
    by_cases hlt : k < n2
    case neg =>
      have hlt2 : decide ((k : Int) < (n2 : Int)) = false := decide_eq_false (by omega)
      go_wp2_with fail
      refine wp_region_class F (by kernel_rfl) (by kernel_rfl) x0 HXX.out ?_
      repeat (go_big_quiet_step (fail))
      refine wpQuiet_nil ?_
      rintro _ ⟨t, rfl⟩
      have HBT := Lib.hid (HBX.out t)
      have HPK : Hid (posF ⟨fa, fb, fc, fd⟩ fs = k) := Lib.hid (HPI.out k (by have := HL2.out; omega) (fun j hj => HALL.out j hj (by have := HL2.out; omega)) (fun h => absurd h (by have := HL2.out; omega)))
      clear s1 s2 s3 s4 s5 s6 s7 hlt2
      generalize F t = w3 at HBT ⊢
      obtain rfl : k = n2 := by omega
      obtain ⟨⟨k0, k1, k01⟩, k2, k3, k4, k5, k6⟩ := HK.out w3 HBT.out
      have HB3W := Lib.hid (HB0.out.trans (HBT.out.mono HB0.out.size))
      have CO := Lib.hid (l2Own_ (HNT.out.moved HB3W.out))
      clear k2 k3 k4 k5 k6
      go_wp2_with fail
      clear k0 k1 k01
      refine CO.out.mono ?_
      rintro e w4 ⟨A1, A2, d1, d2, rfl, ho1, ho2, hb4⟩
      have HB4 := Lib.hid (HBT.out.trans (hb4.mono HBT.out.size))
      have HOS4 := Lib.hid (own_base (B' := W0.heap.size) ho1 (by have := HBT.out.size; omega))
      obtain ⟨i2, hi2, hz20, hz21, hz22⟩ := info_parts Try.inf_Fib
      have HI2 := Lib.hid hi2; have HZ20 := Lib.hid hz20; have HZ21 := Lib.hid hz21; have HZ22 := Lib.hid hz22
      clear ho1 ho2 hb4 hi2 hz20 hz21 hz22
      go_wp2_with fail
      obtain ⟨w5, hw5⟩ : ∃ u, w4.alloc (Obj.cells #[.slice A1 n1 d1, .slice A2 k d2] 31) = u := ⟨_, rfl⟩
      have hb5 : Below w4.heap.size w4 w5 := by rw [← hw5]; exact (Below.refl _ _).alloc (Nat.le_refl _) _
      have HRX : Hid (w5.ownsRow w4.heap.size 31 2 (.slice (some ⟨w4.heap.size, 0, none⟩) 1 1) 1 [.slice A1 n1 d1, .slice A2 k d2]) := Lib.hid (by rw [← hw5]; exact one_rowN w4 _ _ (Nat.le_refl _))
      have hz5 : w5.heap.size = w4.heap.size + 1 := by rw [← hw5]; simp
      have HZ5 := Lib.hid hz5; have HB45 := Lib.hid hb5
      have HB5 := Lib.hid (HB4.out.trans (hb5.mono HB4.out.size))
      have HOS5 := Lib.hid (ownB HOS4.out hb5)
      rw [hw5]
      clear hw5 hb5 hz5
      have HCT : Hid (∀ U, Below w5.heap.size w5 U → ∀ (j : Nat) (u : Value), ((fs.take k).flatMap Q4.cells)[j]? = some u → U.cell? ((⟨g2, 0, none⟩ : Addr).add j) = some u) := Lib.hid (fun U hU => (q4_src (c := k * 4) (HNT.out.moved (HB0.out.trans ((HB5.out.trans (hU.mono HB5.out.size)).mono HB0.out.size))).rd2 k (by have := HL2.out; omega) rfl).1)
      have HCD : Hid (∀ U, Below w5.heap.size w5 U → ∀ (j : Nat) (u : Value), ((fs.drop k).flatMap Q4.cells)[j]? = some u → U.cell? ((⟨g2, k * 4, none⟩ : Addr).add j) = some u) := Lib.hid (fun U hU => (q4_src (c := k * 4) (HNT.out.moved (HB0.out.trans ((HB5.out.trans (hU.mono HB5.out.size)).mono HB0.out.size))).rd2 k (by have := HL2.out; omega) rfl).2)
      obtain ⟨⟨k0, k1, k01⟩, k2, k3, k4, k5, k6⟩ := HK.out w5 HB5.out
      have hk14 : k ≤ 14 := by omega
      have SOF : Hid (∀ U, Below w4.heap.size w4 U → (U.cell? ⟨w.heap.size, 1, none⟩ = some (.slice (some ⟨g2, 0, none⟩) k k) ∧ U.cell? ⟨w.heap.size + 1, 0, none⟩ = some (.int .i64 fa) ∧ U.cell? ⟨w.heap.size + 1, 1, none⟩ = some (.int .i64 fb) ∧ U.cell? ⟨w.heap.size + 1, 2, none⟩ = some (.int .i64 fc) ∧ U.cell? ⟨w.heap.size + 1, 3, none⟩ = some (.int .i64 fd) ∧ Bel w4 U)) := Lib.hid fun U hU => by
        obtain ⟨⟨a0, a1, a01⟩, a2, a3, a4, a5, a6⟩ := HK.out U (HB4.out.trans (hU.mono HB4.out.size))
        exact ⟨a1, a2, a3, a4, a5, Bel.of hU⟩
      go_region_held3 (fun U => U.cell? ⟨w.heap.size, 1, none⟩ = some (.slice (some ⟨g2, 0, none⟩) k k) ∧ U.cell? ⟨w.heap.size + 1, 0, none⟩ = some (.int .i64 fa) ∧ U.cell? ⟨w.heap.size + 1, 1, none⟩ = some (.int .i64 fb) ∧ U.cell? ⟨w.heap.size + 1, 2, none⟩ = some (.int .i64 fc) ∧ U.cell? ⟨w.heap.size + 1, 3, none⟩ = some (.int .i64 fd) ∧ Bel w4 U)
        (first
        | with_reducible exact SOF.out _ HB45.out.drew
        | with_reducible exact SOF.out _ (HB45.out.trans ((bA1 _ _).mono HB45.out.size))
        | with_reducible exact SOF.out _ (HB45.out.trans ((bA2 _ _ _).mono HB45.out.size))
        | with_reducible exact SOF.out _ (HB45.out.trans (hb3.mono HB45.out.size))
        | with_reducible exact SOF.out _ ((HB45.out.trans (hb3.mono HB45.out.size)).setCell (Nat.le_refl _) _)
        | with_reducible exact SOF.out _ (HB45.out.trans (hb2.mono HB45.out.size))
        | with_reducible exact SOF.out _ (HB45.out.trans (hb1.mono HB45.out.size))
        | with_reducible exact SOF.out _ (HB45.out.trans ((hb1.alloc hb1.size _).mono HB45.out.size)))
        (first
        | ((refine step_app (by rfl) (.tmp 46) (.tmp 50) 29 (by rfl) w5.heap.size 35 i2 (.agg #[.int .i64 0, .int .i64 0, .int .i64 0, .int .i64 0]) 4 32 Try.underlying29 HI2.out HZ20.out HZ21.out HZ22.out rfl (by decide) (.slice (some ⟨_, 0, none⟩) 0 0) 0 [] (by rfl) (by first | with_reducible exact litA1 _ _ | with_reducible exact litA2 _ _ _ | with_reducible exact litA3 _ _ _) ⟨g2, 0, none⟩ k k ((fs.take k).flatMap Q4.cells) (by rfl) (by rw [q4_len, List.length_take]; have := HL2.out; omega) (HCT.out _ (by first | with_reducible exact bA1 _ _ | with_reducible exact bA2 _ _ _)) (q4_ones _) (by unfold maxLen; omega) (by omega) (by first | with_reducible exact (bA1 _ _).size | with_reducible exact (bA2 _ _ _).size) ?_); intro v1 w1 hown1 hgrow1; have hb1 : Below w5.heap.size w5 w1 := Below.grown (by first | with_reducible exact bA1 _ _ | with_reducible exact bA2 _ _ _) hgrow1 (by first | with_reducible exact (bA1 _ _).size | with_reducible exact (bA2 _ _ _).size) (fun g9 hg9 => by simp [Value.ownBlock] at hg9; omega); obtain ⟨⟨_, _, _⟩, _, _, _, _, _⟩ := HK.out w1 (HB5.out.trans (hb1.mono HB5.out.size)))
        | ((refine step_app (by rfl) (.tmp 51) (.tmp 53) 29 (by rfl) w5.heap.size 35 i2 (.agg #[.int .i64 0, .int .i64 0, .int .i64 0, .int .i64 0]) 4 32 Try.underlying29 HI2.out HZ20.out HZ21.out HZ22.out rfl (by decide) v1 (0 + k) ([] ++ ((fs.take k).flatMap Q4.cells)) (by rfl) (by first | with_reducible exact hown1 | with_reducible exact hown1.alloc _) ⟨_, 0, none⟩ 1 1 [Value.int .i64 fa, .int .i64 fb, .int .i64 fc, .int .i64 fd] (by rfl) rfl (by first | with_reducible exact new_fourA _ _ _ _ _ _ _ rfl | with_reducible exact far4 hgrow1 (nwA1 _ _ _ _ _ _ _) (szA1 _ _ _) (by simp [Value.ownBlock]) | with_reducible exact far4 hgrow1 (nwA2 _ _ _ _ _ _ _) (szA2 _ _ _) (by simp [Value.ownBlock])) (four_one ⟨fa, fb, fc, fd⟩) (by unfold maxLen; omega) (by omega) (by first | with_reducible exact hb1.size | with_reducible exact (hb1.alloc hb1.size _).size) ?_); intro v2 w2 hown2 hgrow2; have hb2 : Below w5.heap.size w5 w2 := Below.grown (by first | with_reducible exact hb1 | with_reducible exact hb1.alloc hb1.size _) hgrow2 (by first | with_reducible exact hb1.size | with_reducible exact (hb1.alloc hb1.size _).size) (fun g9 hg9 => (hown1.lt g9 hg9).1); obtain ⟨⟨_, _, _⟩, _, _, _, _, _⟩ := HK.out w2 (HB5.out.trans (hb2.mono HB5.out.size)))
        | ((refine step_app (by rfl) (.tmp 54) (.tmp 58) 29 (by rfl) w5.heap.size 35 i2 (.agg #[.int .i64 0, .int .i64 0, .int .i64 0, .int .i64 0]) 4 32 Try.underlying29 HI2.out HZ20.out HZ21.out HZ22.out rfl (by decide) v2 (0 + k + 1) (([] ++ ((fs.take k).flatMap Q4.cells)) ++ [Value.int .i64 fa, .int .i64 fb, .int .i64 fc, .int .i64 fd]) (by rfl) hown2 ⟨_, _, none⟩ 0 0 [] (by rfl) rfl (fun j u hu => by simp at hu) (fun u hu => by simp at hu) (by unfold maxLen; omega) (by omega) hb2.size ?_); intro v3 w6 hown3 hgrow3; have hb3 : Below w5.heap.size w5 w6 := Below.grown hb2 hgrow3 hb2.size (fun g9 hg9 => (hown2.lt g9 hg9).1); obtain ⟨A3, c3, rfl⟩ := formOf hown3; have HX6 := Lib.hid (ownB HRX.out hb3); obtain ⟨_, _, _, _, _⟩ := nx_facts HX6.out))
      all_goals
        have HB6 := Lib.hid (HB5.out.trans (hb3.mono HB5.out.size))
        have HB6W := Lib.hid (HB0.out.trans (HB6.out.mono HB0.out.size))
        have HOS6 := Lib.hid (ownB HOS5.out hb3)
        have HNF : Hid (k + 1 = (afF fs ⟨fa, fb, fc, fd⟩).length) := Lib.hid (by rw [afF_len]; have := HL2.out; omega)
        have HOF6 : Hid (w6.ownsRow W0.heap.size 35 4 (.slice A3 (k + 1) c3) (k + 1) ((afF fs ⟨fa, fb, fc, fd⟩).flatMap Q4.cells)) := Lib.hid (by
          have h9 := own_base (B' := W0.heap.size) hown3 HB5.out.size
          rw [(HPN.out k HPK.out).2, List.flatMap_append, List.flatMap_cons]
          rw [List.drop_of_length_le (by have := HL2.out; omega), List.flatMap_nil, List.append_nil]
          simp only [List.nil_append, List.append_nil, Nat.zero_add, Nat.add_zero] at h9
          exact h9)
        obtain ⟨s0, s1, s2, s3, s4⟩ := HS.out w6 HB6.out
        have HYC := HYB.out
        rw [HPK.out] at HYC
        obtain ⟨e1, e2, rfl, rfl⟩ := HYC
        have E1 := Lib.hid e1; have E2 := Lib.hid e2
        have hbne : ¬ (w4.heap.size = w.heap.size + 2) := by have := HB4.out.size; have := HZ0.out; omega
        have hbne2 : ¬ (w.heap.size + 2 = w4.heap.size) := fun e => hbne e.symm
        clear e1 e2 hown1 hgrow1 hown2 hgrow2 hown3 hgrow3 hb1 hb2 hb3
        obtain ⟨N2, hN2⟩ : ∃ N2, k + 1 = N2 := ⟨_, rfl⟩
        rw [hN2] at HNF HOF6
        try rw [hN2]
        have HN2 := Lib.hid hN2
        clear hN2
        go_wp2
        refine bodyPost_ret (v := .tuple #[.agg #[.slice A1 n1 d1, .slice A3 N2 c3], .int .i64 (k : Int), .bool true]) ?_ rfl ?_
        · simp [results, Try.results11, go_sem, s0, s1, s4, hbne, hbne2]
          all_goals exact HN2.out
        · rw [E1.out, E2.out]
          exact NfI_fin (b := w.heap.size + 2) (B := W0.heap.size) (by omega) (by have := HZ0.out; omega) HL1.out.symm HNF.out (af_own HOS6.out HX6.out (by decide)) (af_own HOF6.out HX6.out (by decide)) (HB6W.out.setCell (p := ⟨w4.heap.size, 1, none⟩) (by have := HB4.out.size; have := HZ0.out; show w.heap.size ≤ w4.heap.size; omega) _)
    case pos =>
    have hkl : k < fs.length := by have := HL2.out; omega
    obtain ⟨q, hq⟩ : ∃ q, fs[k]'hkl = q := ⟨_, rfl⟩
    have HQ := Lib.hid hq
    have HSQ : Hid (smallQ q) := Lib.hid (by rw [← hq]; exact fibP.small (HP.out.2.2.2 k hkl hkl).1 (by have := HP.out.1; omega))
    have HQC : Hid (∀ x, g2 < (F x).heap.size ∧ (F x).cell? ⟨g2, k * 4, none⟩ = some (.int .i64 q.a) ∧ (F x).cell? ⟨g2, k * 4 + 1, none⟩ = some (.int .i64 q.b) ∧ (F x).cell? ⟨g2, k * 4 + 2, none⟩ = some (.int .i64 q.c) ∧ (F x).cell? ⟨g2, k * 4 + 3, none⟩ = some (.int .i64 q.d)) := Lib.hid fun x => by
      have h9 := (HNT.out.moved (HB0.out.trans ((HBX.out x).mono HB0.out.size))).rd2.q4c hkl
      rw [Nat.zero_add, hq] at h9
      exact h9
    obtain ⟨qa, qb, qc, qd⟩ := q
    simp only at HQC
    have t0 : ∀ x, g2 < (F x).heap.size := fun x => (HQC.out x).1
    have t1 : ∀ x, (F x).cell? ⟨g2, k * 4, none⟩ = some (.int .i64 qa) := fun x => (HQC.out x).2.1
    have t2 : ∀ x, (F x).cell? ⟨g2, k * 4 + 1, none⟩ = some (.int .i64 qb) := fun x => (HQC.out x).2.2.1
    have t3 : ∀ x, (F x).cell? ⟨g2, k * 4 + 2, none⟩ = some (.int .i64 qc) := fun x => (HQC.out x).2.2.2.1
    have t4 : ∀ x, (F x).cell? ⟨g2, k * 4 + 3, none⟩ = some (.int .i64 qd) := fun x => (HQC.out x).2.2.2.2
    have hkI : (k : Int) < (n2 : Int) := by omega
    have hkD : decide ((k : Int) < (n2 : Int)) = true := decide_eq_true hkI
    obtain ⟨z, hz⟩ : ∃ z, befV ⟨qa, qb, qc, qd⟩ ⟨fa, fb, fc, fd⟩ = z := ⟨_, rfl⟩
    have CL : Hid (∀ x, Calls Try.prog 55 #[.agg #[.int .i64 qa, .int .i64 qb, .int .i64 qc, .int .i64 qd], .agg #[.int .i64 fa, .int .i64 fb, .int .i64 fc, .int .i64 fd]] (F x) (RetP (.int .i64 z) (F x))) := Lib.hid fun x => by
      rw [← hz]; exact specBef ⟨qa, qb, qc, qd⟩ ⟨fa, fb, fc, fd⟩ (F x) HSQ.out HSF.out
    have HLZ : Hid (leF ⟨qa, qb, qc, qd⟩ ⟨fa, fb, fc, fd⟩ ↔ z ≤ 0) := Lib.hid (by
      rw [le_iff, ← befV_pos, hz]; omega)
    clear hq hz
    by_cases hz0 : z ≤ 0
    case pos =>
      have HALL2 : Hid (∀ j (hj : j < k + 1) (hl : j < fs.length), leF fs[j] ⟨fa, fb, fc, fd⟩) := Lib.hid (fun j hj hl => by
        by_cases e : j = k
        · subst e; rw [HQ.out]; exact HLZ.out.2 hz0
        · exact HALL.out j (by omega) hl)
      have hzd : decide (z ≤ 0) = true := decide_eq_true hz0
      go_wp2_with fail
      refine wp_region_class F (by kernel_rfl) (by kernel_rfl) x0 HXX.out ?_
      repeat (go_big_quiet_step (first | (go_at_call 55; exact Calls.inClass HST (CL.out _))))
      refine wpQuiet_nil ?_
      rintro _ ⟨t, rfl⟩
      have HBT := Lib.hid (HBX.out t)
      clear s1 s2 s3 s4 s5 s6 s7 t0 t1 t2 t3 t4 hkD hzd
      generalize F t = w3 at HBT ⊢
      go_wp2
      go_roundw
      case rel => exact ⟨k + 1, by omega, by go_num, HALL2, HBT.out⟩
      case measure => simp [intOf]; omega
    case neg =>
      have HPK : Hid (posF ⟨fa, fb, fc, fd⟩ fs = k) := Lib.hid (HPI.out k (by have := HL2.out; omega) (fun j hj => HALL.out j hj (by have := HL2.out; omega)) (fun h => by
        rw [HQ.out]; exact fun h9 => hz0 (HLZ.out.1 h9)))
      have hzd : decide (z ≤ 0) = false := decide_eq_false hz0
      go_wp2_with fail
      refine wp_region_class F (by kernel_rfl) (by kernel_rfl) x0 HXX.out ?_
      repeat (go_big_quiet_step (first | (go_at_call 55; exact Calls.inClass HST (CL.out _))))
      refine wpQuiet_nil ?_
      rintro _ ⟨t, rfl⟩
      have HBT := Lib.hid (HBX.out t)
      clear s1 s2 s3 s4 s5 s6 s7 t0 t1 t2 t3 t4 hkD hzd
      generalize F t = w3 at HBT ⊢
      obtain ⟨⟨k0, k1, k01⟩, k2, k3, k4, k5, k6⟩ := HK.out w3 HBT.out
      have HB3W := Lib.hid (HB0.out.trans (HBT.out.mono HB0.out.size))
      have CO := Lib.hid (l2Own_ (HNT.out.moved HB3W.out))
      clear k2 k3 k4 k5 k6
      go_wp2_with fail
      clear k0 k1 k01
      refine CO.out.mono ?_
      rintro e w4 ⟨A1, A2, d1, d2, rfl, ho1, ho2, hb4⟩
      have HB4 := Lib.hid (HBT.out.trans (hb4.mono HBT.out.size))
      have HOS4 := Lib.hid (own_base (B' := W0.heap.size) ho1 (by have := HBT.out.size; omega))
      obtain ⟨i2, hi2, hz20, hz21, hz22⟩ := info_parts Try.inf_Fib
      have HI2 := Lib.hid hi2; have HZ20 := Lib.hid hz20; have HZ21 := Lib.hid hz21; have HZ22 := Lib.hid hz22
      clear ho1 ho2 hb4 hi2 hz20 hz21 hz22
      go_wp2_with fail
      obtain ⟨w5, hw5⟩ : ∃ u, w4.alloc (Obj.cells #[.slice A1 n1 d1, .slice A2 n2 d2] 31) = u := ⟨_, rfl⟩
      have hb5 : Below w4.heap.size w4 w5 := by rw [← hw5]; exact (Below.refl _ _).alloc (Nat.le_refl _) _
      have HRX : Hid (w5.ownsRow w4.heap.size 31 2 (.slice (some ⟨w4.heap.size, 0, none⟩) 1 1) 1 [.slice A1 n1 d1, .slice A2 n2 d2]) := Lib.hid (by rw [← hw5]; exact one_rowN w4 _ _ (Nat.le_refl _))
      have hz5 : w5.heap.size = w4.heap.size + 1 := by rw [← hw5]; simp
      have HZ5 := Lib.hid hz5; have HB45 := Lib.hid hb5
      have HB5 := Lib.hid (HB4.out.trans (hb5.mono HB4.out.size))
      have HOS5 := Lib.hid (ownB HOS4.out hb5)
      rw [hw5]
      clear hw5 hb5 hz5
      have HCT : Hid (∀ U, Below w5.heap.size w5 U → ∀ (j : Nat) (u : Value), ((fs.take k).flatMap Q4.cells)[j]? = some u → U.cell? ((⟨g2, 0, none⟩ : Addr).add j) = some u) := Lib.hid (fun U hU => (q4_src (c := k * 4) (HNT.out.moved (HB0.out.trans ((HB5.out.trans (hU.mono HB5.out.size)).mono HB0.out.size))).rd2 k (by have := HL2.out; omega) rfl).1)
      have HCD : Hid (∀ U, Below w5.heap.size w5 U → ∀ (j : Nat) (u : Value), ((fs.drop k).flatMap Q4.cells)[j]? = some u → U.cell? ((⟨g2, k * 4, none⟩ : Addr).add j) = some u) := Lib.hid (fun U hU => (q4_src (c := k * 4) (HNT.out.moved (HB0.out.trans ((HB5.out.trans (hU.mono HB5.out.size)).mono HB0.out.size))).rd2 k (by have := HL2.out; omega) rfl).2)
      obtain ⟨⟨k0, k1, k01⟩, k2, k3, k4, k5, k6⟩ := HK.out w5 HB5.out
      have hkn2 : (k : Int) ≤ n2 := by omega
      have hk14 : k ≤ 14 := by omega
      have hck : ¬ n2 = k := by omega
      have SOF : Hid (∀ U, Below w4.heap.size w4 U → (U.cell? ⟨w.heap.size, 1, none⟩ = some (.slice (some ⟨g2, 0, none⟩) n2 n2) ∧ U.cell? ⟨w.heap.size + 1, 0, none⟩ = some (.int .i64 fa) ∧ U.cell? ⟨w.heap.size + 1, 1, none⟩ = some (.int .i64 fb) ∧ U.cell? ⟨w.heap.size + 1, 2, none⟩ = some (.int .i64 fc) ∧ U.cell? ⟨w.heap.size + 1, 3, none⟩ = some (.int .i64 fd) ∧ Bel w4 U)) := Lib.hid fun U hU => by
        obtain ⟨⟨a0, a1, a01⟩, a2, a3, a4, a5, a6⟩ := HK.out U (HB4.out.trans (hU.mono HB4.out.size))
        exact ⟨a1, a2, a3, a4, a5, Bel.of hU⟩
      go_region_held3 (fun U => U.cell? ⟨w.heap.size, 1, none⟩ = some (.slice (some ⟨g2, 0, none⟩) n2 n2) ∧ U.cell? ⟨w.heap.size + 1, 0, none⟩ = some (.int .i64 fa) ∧ U.cell? ⟨w.heap.size + 1, 1, none⟩ = some (.int .i64 fb) ∧ U.cell? ⟨w.heap.size + 1, 2, none⟩ = some (.int .i64 fc) ∧ U.cell? ⟨w.heap.size + 1, 3, none⟩ = some (.int .i64 fd) ∧ Bel w4 U)
        (first
        | with_reducible exact SOF.out _ HB45.out.drew
        | with_reducible exact SOF.out _ (HB45.out.trans ((bA1 _ _).mono HB45.out.size))
        | with_reducible exact SOF.out _ (HB45.out.trans ((bA2 _ _ _).mono HB45.out.size))
        | with_reducible exact SOF.out _ (HB45.out.trans (hb3.mono HB45.out.size))
        | with_reducible exact SOF.out _ ((HB45.out.trans (hb3.mono HB45.out.size)).setCell (Nat.le_refl _) _)
        | with_reducible exact SOF.out _ (HB45.out.trans (hb2.mono HB45.out.size))
        | with_reducible exact SOF.out _ (HB45.out.trans (hb1.mono HB45.out.size))
        | with_reducible exact SOF.out _ (HB45.out.trans ((hb1.alloc hb1.size _).mono HB45.out.size)))
        (first
        | ((refine step_app (by rfl) (.tmp 46) (.tmp 50) 29 (by rfl) w5.heap.size 35 i2 (.agg #[.int .i64 0, .int .i64 0, .int .i64 0, .int .i64 0]) 4 32 Try.underlying29 HI2.out HZ20.out HZ21.out HZ22.out rfl (by decide) (.slice (some ⟨_, 0, none⟩) 0 0) 0 [] (by rfl) (by first | with_reducible exact litA1 _ _ | with_reducible exact litA2 _ _ _ | with_reducible exact litA3 _ _ _) ⟨g2, 0, none⟩ k n2 ((fs.take k).flatMap Q4.cells) (by rfl) (by rw [q4_len, List.length_take]; have := HL2.out; omega) (HCT.out _ (by first | with_reducible exact bA1 _ _ | with_reducible exact bA2 _ _ _)) (q4_ones _) (by unfold maxLen; omega) (by omega) (by first | with_reducible exact (bA1 _ _).size | with_reducible exact (bA2 _ _ _).size) ?_); intro v1 w1 hown1 hgrow1; have hb1 : Below w5.heap.size w5 w1 := Below.grown (by first | with_reducible exact bA1 _ _ | with_reducible exact bA2 _ _ _) hgrow1 (by first | with_reducible exact (bA1 _ _).size | with_reducible exact (bA2 _ _ _).size) (fun g9 hg9 => by simp [Value.ownBlock] at hg9; omega); obtain ⟨⟨_, _, _⟩, _, _, _, _, _⟩ := HK.out w1 (HB5.out.trans (hb1.mono HB5.out.size)))
        | ((refine step_app (by rfl) (.tmp 51) (.tmp 53) 29 (by rfl) w5.heap.size 35 i2 (.agg #[.int .i64 0, .int .i64 0, .int .i64 0, .int .i64 0]) 4 32 Try.underlying29 HI2.out HZ20.out HZ21.out HZ22.out rfl (by decide) v1 (0 + k) ([] ++ ((fs.take k).flatMap Q4.cells)) (by rfl) (by first | with_reducible exact hown1 | with_reducible exact hown1.alloc _) ⟨_, 0, none⟩ 1 1 [Value.int .i64 fa, .int .i64 fb, .int .i64 fc, .int .i64 fd] (by rfl) rfl (by first | with_reducible exact new_fourA _ _ _ _ _ _ _ rfl | with_reducible exact far4 hgrow1 (nwA1 _ _ _ _ _ _ _) (szA1 _ _ _) (by simp [Value.ownBlock]) | with_reducible exact far4 hgrow1 (nwA2 _ _ _ _ _ _ _) (szA2 _ _ _) (by simp [Value.ownBlock])) (four_one ⟨fa, fb, fc, fd⟩) (by unfold maxLen; omega) (by omega) (by first | with_reducible exact hb1.size | with_reducible exact (hb1.alloc hb1.size _).size) ?_); intro v2 w2 hown2 hgrow2; have hb2 : Below w5.heap.size w5 w2 := Below.grown (by first | with_reducible exact hb1 | with_reducible exact hb1.alloc hb1.size _) hgrow2 (by first | with_reducible exact hb1.size | with_reducible exact (hb1.alloc hb1.size _).size) (fun g9 hg9 => (hown1.lt g9 hg9).1); obtain ⟨⟨_, _, _⟩, _, _, _, _, _⟩ := HK.out w2 (HB5.out.trans (hb2.mono HB5.out.size)))
        | ((refine step_app (by rfl) (.tmp 54) (.tmp 58) 29 (by rfl) w5.heap.size 35 i2 (.agg #[.int .i64 0, .int .i64 0, .int .i64 0, .int .i64 0]) 4 32 Try.underlying29 HI2.out HZ20.out HZ21.out HZ22.out rfl (by decide) v2 (0 + k + 1) (([] ++ ((fs.take k).flatMap Q4.cells)) ++ [Value.int .i64 fa, .int .i64 fb, .int .i64 fc, .int .i64 fd]) (by rfl) hown2 ⟨g2, k * 4, none⟩ (n2 - k) (n2 - k) ((fs.drop k).flatMap Q4.cells) (by rfl) (by rw [q4_len, List.length_drop]; have := HL2.out; omega) (HCD.out _ hb2) (q4_ones _) (by unfold maxLen; omega) (by omega) hb2.size ?_); intro v3 w6 hown3 hgrow3; have hb3 : Below w5.heap.size w5 w6 := Below.grown hb2 hgrow3 hb2.size (fun g9 hg9 => (hown2.lt g9 hg9).1); obtain ⟨A3, c3, rfl⟩ := formOf hown3; have HX6 := Lib.hid (ownB HRX.out hb3); obtain ⟨_, _, _, _, _⟩ := nx_facts HX6.out))
      all_goals
        have HB6 := Lib.hid (HB5.out.trans (hb3.mono HB5.out.size))
        have HB6W := Lib.hid (HB0.out.trans (HB6.out.mono HB0.out.size))
        have HOS6 := Lib.hid (ownB HOS5.out hb3)
        have HNF : Hid (k + 1 + (n2 - k) = (afF fs ⟨fa, fb, fc, fd⟩).length) := Lib.hid (by rw [afF_len]; have := HL2.out; omega)
        have HOF6 : Hid (w6.ownsRow W0.heap.size 35 4 (.slice A3 (k + 1 + (n2 - k)) c3) (k + 1 + (n2 - k)) ((afF fs ⟨fa, fb, fc, fd⟩).flatMap Q4.cells)) := Lib.hid (by
          have h9 := own_base (B' := W0.heap.size) hown3 HB5.out.size
          rw [(HPN.out k HPK.out).2, List.flatMap_append, List.flatMap_cons]
          simp only [List.nil_append, List.append_assoc, Nat.zero_add] at h9
          exact h9)
        obtain ⟨s0, s1, s2, s3, s4⟩ := HS.out w6 HB6.out
        have HYC := HYB.out
        rw [HPK.out] at HYC
        obtain ⟨e1, e2, rfl, rfl⟩ := HYC
        have E1 := Lib.hid e1; have E2 := Lib.hid e2
        have hbne : ¬ (w4.heap.size = w.heap.size + 2) := by have := HB4.out.size; have := HZ0.out; omega
        have hbne2 : ¬ (w.heap.size + 2 = w4.heap.size) := fun e => hbne e.symm
        clear e1 e2 hown1 hgrow1 hown2 hgrow2 hown3 hgrow3 hb1 hb2 hb3
        obtain ⟨N2, hN2⟩ : ∃ N2, k + 1 + (n2 - k) = N2 := ⟨_, rfl⟩
        rw [hN2] at HNF HOF6
        try rw [hN2]
        have HN2 := Lib.hid hN2
        clear hN2
        go_wp2
        refine bodyPost_ret (v := .tuple #[.agg #[.slice A1 n1 d1, .slice A3 N2 c3], .int .i64 (k : Int), .bool true]) ?_ rfl ?_
        · simp [results, Try.results11, go_sem, s0, s1, s4, hbne, hbne2]
          all_goals exact HN2.out
        · rw [E1.out, E2.out]
          exact NfI_fin (b := w.heap.size + 2) (B := W0.heap.size) (by omega) (by have := HZ0.out; omega) HL1.out.symm HNF.out (af_own HOS6.out HX6.out (by decide)) (af_own HOF6.out HX6.out (by decide)) (HB6W.out.setCell (p := ⟨w4.heap.size, 1, none⟩) (by have := HB4.out.size; have := HZ0.out; show w.heap.size ≤ w4.heap.size; omega) _)
end Go.Proofs.Ytkpendpjdemknaa
