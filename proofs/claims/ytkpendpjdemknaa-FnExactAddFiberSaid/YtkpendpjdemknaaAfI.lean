/- A fiber more: the implementation's contract. No condition but those typed. -/
import Derived.Test.YtkpendpjdemknaaAfP
import Derived.Test.YtkpendpjdemknaaCpo
import Derived.Test.YtkpendpjdemknaaRf
import Derived.BigQuiet
import Derived.BigRegion
import Derived.Deep.RegionLaw
namespace Go.Proofs.Ytkpendpjdemknaa
open Go.ChangeShapes Go.WideShapes Go.ChangeAt Go.RowKit

/-- an answer: a network, a number and a word. -/
def NfI (ss : List ByteArray) (fs : List Q4) (v : Int) (b : Bool) (w : World) (e : Ending) (w' : World) : Prop :=
  ∃ (A1 A2 : Option Addr) (N1 N2 d1 d2 : Nat), e = .returned (.tuple #[.agg #[.slice A1 N1 d1, .slice A2 N2 d2], .int .i64 v, .bool b]) ∧ Hid (N1 = ss.length) ∧ Hid (N2 = fs.length) ∧
    w'.ownsRow w.heap.size 9 1 (.slice A1 N1 d1) N1 (ss.map Value.string) ∧ w'.ownsRow w.heap.size 35 4 (.slice A2 N2 d2) N2 (fs.flatMap Q4.cells) ∧ Below w.heap.size w w'
theorem NfI_fin {w X : World} {ss : List ByteArray} {fs : List Q4} {v : Int} {bo : Bool} {A1 A2 : Option Addr} {N1 N2 d1 d2 b B : Nat} {u1 u2 : Value} (hb : w.heap.size ≤ b) (hB : b < B) (h1 : N1 = ss.length) (h2 : N2 = fs.length)
    (ho1 : X.ownsRow B 9 1 (.slice A1 N1 d1) N1 (ss.map Value.string)) (ho2 : X.ownsRow B 35 4 (.slice A2 N2 d2) N2 (fs.flatMap Q4.cells)) (hbw : Below w.heap.size w X) :
    NfI ss fs v bo w (.returned (.tuple #[.agg #[.slice A1 N1 d1, .slice A2 N2 d2], .int .i64 v, .bool bo])) ((X.setCell ⟨b, 0, none⟩ u1).setCell ⟨b, 1, none⟩ u2) :=
  ⟨A1, A2, N1, N2, d1, d2, rfl, Lib.hid h1, Lib.hid h2, own_base (ownsRow_setCell_below (ownsRow_setCell_below ho1 (a := ⟨b, 0, none⟩) hB _) (a := ⟨b, 1, none⟩) hB _) (by omega),
    own_base (ownsRow_setCell_below (ownsRow_setCell_below ho2 (a := ⟨b, 0, none⟩) hB _) (a := ⟨b, 1, none⟩) hB _) (by omega),
    (hbw.setCell (p := ⟨b, 0, none⟩) hb _).setCell (p := ⟨b, 1, none⟩) hb _⟩
theorem nx_facts {u : World} {B b : Nat} {x y : Value} (h : u.ownsRow B 31 2 (.slice (some ⟨b, 0, none⟩) 1 1) 1 [x, y]) : u.cell? ⟨b, 0, none⟩ = some x ∧ u.cell? ⟨b, 1, none⟩ = some y ∧ u.frozen? ⟨b, 0, none⟩ = false ∧ u.frozen? ⟨b, 1, none⟩ = false ∧ b < u.heap.size := by
  have c0 := h.cellAt 0 (by decide); have c1 := h.cellAt 1 (by decide)
  simp only [List.getElem?_cons_zero, List.getElem?_cons_succ] at c0 c1
  exact ⟨c0, c1, h.frozenAt 0, h.frozenAt 1, (h.lt b rfl).2⟩
theorem q4_len (fs : List Q4) : (fs.flatMap Q4.cells).length = fs.length * 4 := flat_len Q4.cells 4 fs (fun x _ => rfl)
theorem q4_ones (fs : List Q4) : ∀ u ∈ fs.flatMap Q4.cells, u.oneCell' = true := by
  intro u hu
  obtain ⟨q, _, h⟩ := List.mem_flatMap.1 hu
  exact four_one q u h
theorem net_smallA {ss : List ByteArray} {fs : List Q4} (h : netP ss fs) : ss.length ≤ 1000 ∧ ∀ s ∈ ss, s.size ≤ 281474976710656 :=
  ⟨by have := h.1; omega, fun s hs => by
    obtain ⟨i, hi, e⟩ := List.getElem_of_mem hs
    have := (h.2.2.1 i hi hi).1.2.1
    rw [e] at this; omega⟩
theorem q4_split (fs : List Q4) (k : Nat) : fs.flatMap Q4.cells = (fs.take k).flatMap Q4.cells ++ (fs.drop k).flatMap Q4.cells := by
  rw [← List.flatMap_append, List.take_append_drop]
theorem q4_src {g2 c : Nat} {fs : List Q4} {w : World} (h : Rd w w.heap.size (some ⟨g2, 0, none⟩) (fs.flatMap Q4.cells)) (k : Nat) (hk : k ≤ fs.length) (hc : c = k * 4) :
    (∀ j v, ((fs.take k).flatMap Q4.cells)[j]? = some v → w.cell? ((⟨g2, 0, none⟩ : Addr).add j) = some v) ∧ ∀ j v, ((fs.drop k).flatMap Q4.cells)[j]? = some v → w.cell? ((⟨g2, c, none⟩ : Addr).add j) = some v := by
  subst hc
  have hl : ((fs.take k).flatMap Q4.cells).length = k * 4 := by rw [q4_len, List.length_take]; omega
  refine ⟨fun j v hv => ?_, fun j v hv => ?_⟩
  · obtain ⟨ad, e, _, hcell⟩ := h j v (by
      rw [q4_split fs k, List.getElem?_append_left (List.getElem?_eq_some_iff.1 hv).1]; exact hv)
    injection e with e; subst e; exact hcell
  · obtain ⟨ad, e, _, hcell⟩ := h (k * 4 + j) v (by
      rw [q4_split fs k, List.getElem?_append_right (by omega), hl, show k * 4 + j - k * 4 = j by omega]; exact hv)
    injection e with e; subst e
    have e2 : (⟨g2, k * 4, none⟩ : Addr).add j = (⟨g2, 0, none⟩ : Addr).add (k * 4 + j) := by unfold Addr.add; split <;> split <;> simp_all
    rw [e2]; exact hcell
theorem ins_cells {fs : List Q4} {f : Q4} {k : Nat} {R : List Value} (hk : k ≤ fs.length) (hR : R.length = (fs.length + 1 - k) * 4) :
    ((((((fs.take k).flatMap Q4.cells ++ R).set (k * 4) (.int .i64 f.a)).set (k * 4 + 1) (.int .i64 f.b)).set (k * 4 + 2) (.int .i64 f.c)).set (k * 4 + 3) (.int .i64 f.d)).take ((k + 1) * 4) ++ (fs.drop k).flatMap Q4.cells = (fs.take k ++ f :: fs.drop k).flatMap Q4.cells := by
  have hl : ((fs.take k).flatMap Q4.cells).length = k * 4 := by rw [q4_len, List.length_take]; omega
  obtain ⟨r0, r1, r2, r3, R', rfl⟩ : ∃ r0 r1 r2 r3 R', R = r0 :: r1 :: r2 :: r3 :: R' := by
    match R, hR with
    | [], h => simp at h; omega
    | [_], h => simp at h; omega
    | [_, _], h => simp at h; omega
    | [_, _, _], h => simp at h; omega
    | r0 :: r1 :: r2 :: r3 :: R', _ => exact ⟨r0, r1, r2, r3, R', rfl⟩
  rw [List.set_append_right _ _ (by omega), List.set_append_right _ _ (by omega), List.set_append_right _ _ (by omega), List.set_append_right _ _ (by omega), hl]
  rw [show k * 4 - k * 4 = 0 by omega, show k * 4 + 1 - k * 4 = 1 by omega, show k * 4 + 2 - k * 4 = 2 by omega, show k * 4 + 3 - k * 4 = 3 by omega]
  show ((((fs.take k).flatMap Q4.cells) ++ (Value.int .i64 f.a :: .int .i64 f.b :: .int .i64 f.c :: .int .i64 f.d :: R')).take ((k + 1) * 4)) ++ _ = _
  rw [List.take_append, hl, List.take_of_length_le (by omega), show (k + 1) * 4 - k * 4 = 4 by omega, List.flatMap_append, List.flatMap_cons, List.append_assoc]
  rfl

set_option maxRecDepth 100000 in
set_option maxHeartbeats 4000000 in
theorem implAF {g1 g2 n1 n2 c1 c2 : Nat} {ss : List ByteArray} {fs : List Q4} {w : World} (h : NetAt g1 g2 n1 n2 c1 c2 ss fs w) (hc2 : n2 ≤ c2) (f : Q4) :
    Calls Try.prog 14 #[.agg #[.slice (some ⟨g1, 0, none⟩) n1 c1, .slice (some ⟨g2, 0, none⟩) n2 c2], .agg #[.int .i64 f.a, .int .i64 f.b, .int .i64 f.c, .int .i64 f.d]] w (NfI (afLS ss fs f) (afLF ss fs f) (afI ss fs f) (pb (afP ss fs f)) w) := by
  have HNT := Lib.hid h; have HL1 := Lib.hid h.ln1; have HL2 := Lib.hid h.ln2
  clear h
  obtain ⟨LS, hLS⟩ : ∃ r, afLS ss fs f = r := ⟨_, rfl⟩
  obtain ⟨LF, hLF⟩ : ∃ r, afLF ss fs f = r := ⟨_, rfl⟩
  obtain ⟨LV, hLV⟩ : ∃ r, afI ss fs f = r := ⟨_, rfl⟩
  obtain ⟨RB, hRB⟩ : ∃ r, pb (afP ss fs f) = r := ⟨_, rfl⟩
  have HNO : Hid (¬ afP ss fs f → LS = [] ∧ LF = [] ∧ LV = 0 ∧ RB = false) := Lib.hid (fun e => by rw [← hLS, ← hLF, ← hLV, ← hRB]; exact af_no e)
  have HYES : Hid (afP ss fs f → LS = ss ∧ LF = afF fs f ∧ LV = (posF f fs : Int) ∧ RB = true) := Lib.hid (fun e => by rw [← hLS, ← hLF, ← hLV, ← hRB]; exact af_yes e)
  rw [hLS, hLF, hLV, hRB]
  clear hLS hLF hLV hRB
  have HPN : Hid (∀ k, posF f fs = k → k ≤ fs.length ∧ afF fs f = fs.take k ++ f :: fs.drop k) := Lib.hid (fun k hk => by subst hk; exact ⟨posF_le f fs, rfl⟩)
  have HPI : Hid (∀ k (hk : k ≤ fs.length), (∀ j (hj : j < k), leF (fs[j]'(by omega)) f) → (∀ h : k < fs.length, ¬ leF fs[k] f) → posF f fs = k) := Lib.hid (fun k hk => posF_is hk)
  go_enter Try.func14, Try.ntmps14
  go_wp2_with fail
  obtain ⟨W0, hW0⟩ : ∃ W0, ((w.alloc (Obj.cells #[.slice (some ⟨g1, 0, none⟩) n1 c1, .slice (some ⟨g2, 0, none⟩) n2 c2] 31)).alloc (Obj.cells #[.int .i64 f.a, .int .i64 f.b, .int .i64 f.c, .int .i64 f.d] 35)).alloc (Obj.cells #[.slice none 0 0, .slice none 0 0] 31) = W0 := ⟨_, rfl⟩
  have hb0 : Below w.heap.size w W0 := by rw [← hW0]; exact (((Below.refl _ _).alloc (Nat.le_refl _) _).alloc (by simp) _).alloc (by simp; omega) _
  have k0 : W0.cell? ⟨w.heap.size, 0, none⟩ = some (.slice (some ⟨g1, 0, none⟩) n1 c1) := by rw [← hW0]; simp [go_sem]
  have k1 : W0.cell? ⟨w.heap.size, 1, none⟩ = some (.slice (some ⟨g2, 0, none⟩) n2 c2) := by rw [← hW0]; simp [go_sem]
  have k2 : W0.cell? ⟨w.heap.size + 1, 0, none⟩ = some (.int .i64 f.a) := by rw [← hW0]; simp [go_sem]
  have k3 : W0.cell? ⟨w.heap.size + 1, 1, none⟩ = some (.int .i64 f.b) := by rw [← hW0]; simp [go_sem]
  have k4 : W0.cell? ⟨w.heap.size + 1, 2, none⟩ = some (.int .i64 f.c) := by rw [← hW0]; simp [go_sem]
  have k5 : W0.cell? ⟨w.heap.size + 1, 3, none⟩ = some (.int .i64 f.d) := by rw [← hW0]; simp [go_sem]
  have HR0 : Hid (W0.ownsRow (w.heap.size + 2) 31 2 (.slice (some ⟨w.heap.size + 2, 0, none⟩) 1 1) 1 [.slice none 0 0, .slice none 0 0]) := Lib.hid (by
    rw [← hW0]
    have := one_rowN ((w.alloc (Obj.cells #[.slice (some ⟨g1, 0, none⟩) n1 c1, .slice (some ⟨g2, 0, none⟩) n2 c2] 31)).alloc (Obj.cells #[.int .i64 f.a, .int .i64 f.b, .int .i64 f.c, .int .i64 f.d] 35)) (.slice none 0 0) (.slice none 0 0) (base := w.heap.size + 2) (by simp)
    simpa using this)
  have hz0 : W0.heap.size = w.heap.size + 3 := by rw [← hW0]; simp
  have HB0 := Lib.hid hb0; have HZ0 := Lib.hid hz0
  have HK : Hid (∀ u, Below W0.heap.size W0 u → (u.cell? ⟨w.heap.size, 0, none⟩ = some (.slice (some ⟨g1, 0, none⟩) n1 c1) ∧ u.cell? ⟨w.heap.size, 1, none⟩ = some (.slice (some ⟨g2, 0, none⟩) n2 c2) ∧ w.heap.size < u.heap.size) ∧ u.cell? ⟨w.heap.size + 1, 0, none⟩ = some (.int .i64 f.a) ∧ u.cell? ⟨w.heap.size + 1, 1, none⟩ = some (.int .i64 f.b) ∧ u.cell? ⟨w.heap.size + 1, 2, none⟩ = some (.int .i64 f.c) ∧ u.cell? ⟨w.heap.size + 1, 3, none⟩ = some (.int .i64 f.d) ∧ w.heap.size + 1 < u.heap.size) := Lib.hid fun u hu => by
    have hs := hu.size
    exact ⟨⟨(hu.cell (p := ⟨w.heap.size, 0, none⟩) (by show w.heap.size < _; omega)).trans k0, (hu.cell (p := ⟨w.heap.size, 1, none⟩) (by show w.heap.size < _; omega)).trans k1, by omega⟩, (hu.cell (p := ⟨w.heap.size + 1, 0, none⟩) (by show w.heap.size + 1 < _; omega)).trans k2, (hu.cell (p := ⟨w.heap.size + 1, 1, none⟩) (by show w.heap.size + 1 < _; omega)).trans k3, (hu.cell (p := ⟨w.heap.size + 1, 2, none⟩) (by show w.heap.size + 1 < _; omega)).trans k4, (hu.cell (p := ⟨w.heap.size + 1, 3, none⟩) (by show w.heap.size + 1 < _; omega)).trans k5, by omega⟩
  have HS : Hid (∀ u, Below W0.heap.size W0 u → u.cell? ⟨w.heap.size + 2, 0, none⟩ = some (.slice none 0 0) ∧ u.cell? ⟨w.heap.size + 2, 1, none⟩ = some (.slice none 0 0) ∧ u.frozen? ⟨w.heap.size + 2, 0, none⟩ = false ∧ u.frozen? ⟨w.heap.size + 2, 1, none⟩ = false ∧ w.heap.size + 2 < u.heap.size) := Lib.hid fun u hu => nx_facts (ownB HR0.out hu)
  rw [hW0]
  clear hW0 hb0 k0 k1 k2 k3 k4 k5 hz0
  have CG := Lib.hid (implNet_ (HNT.out.moved HB0.out))
  obtain ⟨b, hb⟩ : ∃ b, pb (netP ss fs) = b := ⟨_, rfl⟩
  rw [hb] at CG
  have HPB := Lib.hid hb
  clear hb
  refine CG.out.mono ?_
  rintro e w1 ⟨rfl, hb1⟩
  have HB1 := Lib.hid hb1
  have HB1W := Lib.hid (HB0.out.trans (hb1.mono HB0.out.size))
  clear hb1
  cases b
  case false =>
    have HNB := Lib.hid (HNO.out (fun hp => of_npb HPB.out hp.1))
    obtain ⟨rfl, rfl, rfl, rfl⟩ := HNB.out
    obtain ⟨s0, s1, s2, s3, s4⟩ := HS.out w1 HB1.out
    go_wp2
    refine bodyPost_ret (v := .tuple #[.agg #[.slice none 0 0, .slice none 0 0], .int .i64 0, .bool false]) ?_ rfl ?_
    · simp [results, Try.results14, go_sem, s0, s1, s4]
    · exact NfI_fin (b := w.heap.size + 2) (B := w.heap.size + 3) (by omega) (by omega) rfl rfl (World.ownsRow_nil _ _ _ _) (World.ownsRow_nil _ _ _ _) HB1W.out
  case true =>
  have HP : Hid (netP ss fs) := Lib.hid (of_pb HPB.out)
  have hn14 : n2 ≤ 14 := by have := HP.out.2.1; have := HL2.out; omega
  obtain ⟨fa, fb, fc, fd⟩ := f
  simp only at *
  go_wp2_with fail
  go_loopw [7] (fun i wr => ∃ k : Nat, k ≤ n2 ∧ i = .int .i64 (k : Int) ∧ Hid (∀ j (hj : j < k) (hl : j < fs.length), leF fs[j] ⟨fa, fb, fc, fd⟩) ∧ Below W0.heap.size W0 wr) (fun i _ => n2 - (intOf i).toNat)
  case atStart => exact ⟨0, Nat.zero_le _, rfl, Lib.hid (fun j hj => absurd hj (by omega)), HB1.out⟩
  case round =>
    obtain ⟨k, hk, rfl, HALL, hb⟩ := hrel
    have HBR := Lib.hid hb
    have HBRW := Lib.hid (HB0.out.trans (hb.mono HB0.out.size))
    clear hb
    obtain ⟨T, F, x0, hx0, hTT, HST⟩ := above wr
    haveI : Nonempty T := ⟨x0⟩
    have HXX := Lib.hid hx0
    have HTX : Hid (∀ x, Below wr.heap.size wr (F x)) := Lib.hid hTT
    clear hTT hx0
    have HBX : Hid (∀ x, Below W0.heap.size W0 (F x)) := Lib.hid (fun x => HBR.out.trans ((HTX.out x).mono HBR.out.size))
    have s1 : ∀ x, (F x).cell? ⟨w.heap.size, 1, none⟩ = some (.slice (some ⟨g2, 0, none⟩) n2 c2) := fun x => (HK.out _ (HBX.out x)).1.2.1
    have s2 : ∀ x, (F x).cell? ⟨w.heap.size + 1, 0, none⟩ = some (.int .i64 fa) := fun x => (HK.out _ (HBX.out x)).2.1
    have s3 : ∀ x, (F x).cell? ⟨w.heap.size + 1, 1, none⟩ = some (.int .i64 fb) := fun x => (HK.out _ (HBX.out x)).2.2.1
    have s4 : ∀ x, (F x).cell? ⟨w.heap.size + 1, 2, none⟩ = some (.int .i64 fc) := fun x => (HK.out _ (HBX.out x)).2.2.2.1
    have s5 : ∀ x, (F x).cell? ⟨w.heap.size + 1, 3, none⟩ = some (.int .i64 fd) := fun x => (HK.out _ (HBX.out x)).2.2.2.2.1
    have s6 : ∀ x, w.heap.size + 1 < (F x).heap.size := fun x => (HK.out _ (HBX.out x)).2.2.2.2.2
    have s7 : ∀ x, w.heap.size < (F x).heap.size := fun x => (HK.out _ (HBX.out x)).1.2.2
    by_cases hlt : k < n2
    case neg =>
      have hlt2 : decide ((k : Int) < (n2 : Int)) = false := decide_eq_false (by omega)
      go_wp2_with fail
      refine wp_region_class F (by kernel_rfl) (by kernel_rfl) x0 HXX.out ?_
      repeat (go_big_quiet_step (fail))
      refine wpQuiet_nil ?_
      rintro _ ⟨t, rfl⟩
      have HBT := Lib.hid (HBX.out t)
      have HPK : Hid (posF ⟨fa, fb, fc, fd⟩ fs = k) := Lib.hid (HPI.out k (by have := HL2.out; omega) (fun j hj => HALL.out j hj (by have := HL2.out; omega)) (fun h => absurd h (by have := HL2.out; omega)))
      clear s1 s2 s3 s4 s5 s6 s7 hlt2
      generalize F t = w2 at HBT ⊢
      obtain ⟨⟨k0, k1, k01⟩, k2, k3, k4, k5, k6⟩ := HK.out w2 HBT.out
      have HB2W := Lib.hid (HB0.out.trans (HBT.out.mono HB0.out.size))
      obtain ⟨hkl9, hins⟩ := HPN.out k HPK.out
      have HINS := Lib.hid hins; have HKL9 := Lib.hid hkl9
      have hkc : (k : Int) ≤ (c2 : Int) := by omega
      have hkcN : k ≤ c2 := by omega
      clear hins
      obtain ⟨i0, hi, hz0, hz1, hz2⟩ := info_parts Try.inf_Fib
      have hsz4 : (Try.prog.info? 35).map (·.size) = some 4 := by kernel_rfl
      go_wp2_with (at_make; refine wpList_make_full _ rfl _ _ 29 rfl w2.heap.size 35 i0 _ 4 Try.underlying29 hi hz0 hz1 .i64 .i64 (n2 + 1) (n2 + 1) (n2 + 1) rfl rfl rfl rfl (by rw [hz2]; omega) (by unfold maxLen; omega) (Nat.le_refl _) ?_)
      intro w3 hown hgrow
      obtain ⟨gF, hgF⟩ : ∃ g, w2.heap.size = g := ⟨_, rfl⟩
      have HGF := Lib.hid hgF
      have hb3 : Below w2.heap.size w2 w3 := (Below.refl _ _).grown hgrow (Nat.le_refl _) (fun k h => by cases h)
      obtain ⟨old, hold⟩ : ∃ l, (madeCells #[Value.int .i64 0, .int .i64 0, .int .i64 0, .int .i64 0] ((n2 + 1) * 4)).toList = l := ⟨_, rfl⟩
      rw [hold, hgF] at hown
      have HB3 := Lib.hid (HBT.out.trans (hb3.mono HBT.out.size))
      have HB3W := Lib.hid (HB2W.out.trans (hb3.mono HB2W.out.size))
      clear hold hgrow hi hz0 hz1 hz2 hb3 k0 k1 k01 k2 k3 k4 k5 k6
      try rw [hgF]
      clear hgF
      have hold9 : old.length = (n2 + 1) * 4 := hown.1
      have hcs1 : ((fs.take k).flatMap Q4.cells).length = k * 4 := by rw [q4_len, List.length_take]; omega
      have hcs2 : ((fs.drop k).flatMap Q4.cells).length = (n2 - k) * 4 := by rw [q4_len, List.length_drop]; have := HL2.out; omega
      have hsrc1 := (q4_src (HNT.out.moved HB3W.out).rd2 k HKL9.out rfl).1
      obtain ⟨⟨k0, k1, k01⟩, k2, k3, k4, k5, k6⟩ := HK.out w3 HB3.out
      go_upto_region 7 with fail
      go_wp2_with (with_reducible refine wpList_copy_partK rfl _ _ 29 29 rfl 35 Try.underlying29 4 hsz4 gF gF (n2 + 1) old hown 0 k (n2 + 1) k (n2 + 1) ⟨g2, 0, none⟩ c2 rfl rfl (by omega) ((fs.take k).flatMap Q4.cells) hcs1 (by rw [hcs1]; omega) hsrc1 (q4_ones _) ?_)
      intro w4 hown4 hb4
      have HG0 : Hid (W0.heap.size ≤ gF) := Lib.hid (by have := HBT.out.size; have := HGF.out; omega)
      have HB4 := Lib.hid (HB3.out.trans (hb4.mono HG0.out))
      have HB4W := Lib.hid (HB0.out.trans (HB4.out.mono HB0.out.size))
      clear k0 k1 k01 k2 k3 k4 k5 k6 hsrc1 hb4 hown
      obtain ⟨⟨k0, k1, k01⟩, k2, k3, k4, k5, k6⟩ := HK.out w4 HB4.out
      have z0 := hown4.frozenAt (k * 4); have z1 := hown4.frozenAt (k * 4 + 1); have z2 := hown4.frozenAt (k * 4 + 2); have z3 := hown4.frozenAt (k * 4 + 3)
      have hgl := (hown4.lt gF rfl).2
      have hln4 := hown4.1
      obtain ⟨v0, c0⟩ : ∃ v, w4.cell? ⟨gF, k * 4, none⟩ = some v := ⟨_, (hown4.cellAt (k * 4) (by omega)).trans (List.getElem?_eq_getElem (by omega))⟩
      obtain ⟨v1, c1_⟩ : ∃ v, w4.cell? ⟨gF, k * 4 + 1, none⟩ = some v := ⟨_, (hown4.cellAt (k * 4 + 1) (by omega)).trans (List.getElem?_eq_getElem (by omega))⟩
      obtain ⟨v2, c2_⟩ : ∃ v, w4.cell? ⟨gF, k * 4 + 2, none⟩ = some v := ⟨_, (hown4.cellAt (k * 4 + 2) (by omega)).trans (List.getElem?_eq_getElem (by omega))⟩
      obtain ⟨v3, c3_⟩ : ∃ v, w4.cell? ⟨gF, k * 4 + 3, none⟩ = some v := ⟨_, (hown4.cellAt (k * 4 + 3) (by omega)).trans (List.getElem?_eq_getElem (by omega))⟩
      have hkn1 : (k : Int) < (n2 : Int) + 1 := by omega
      have HOW4 := Lib.hid hown4
      clear hown4
      go_upto_region 9 with fail
      obtain ⟨w5, hw5⟩ : ∃ w5, (((w4.setCell ⟨gF, k * 4, none⟩ (.int .i64 fa)).setCell ⟨gF, k * 4 + 1, none⟩ (.int .i64 fb)).setCell ⟨gF, k * 4 + 2, none⟩ (.int .i64 fc)).setCell ⟨gF, k * 4 + 3, none⟩ (.int .i64 fd) = w5 := ⟨_, rfl⟩
      obtain ⟨Lx, hLx⟩ : ∃ l, ((((((fs.take k).flatMap Q4.cells ++ old.drop (k * 4)).set (k * 4) (.int .i64 fa)).set (k * 4 + 1) (.int .i64 fb)).set (k * 4 + 2) (.int .i64 fc)).set (k * 4 + 3) (.int .i64 fd)) = l := ⟨_, rfl⟩
      have hown5 : w5.ownsRow gF 35 4 (.slice (some ⟨gF, 0, none⟩) (n2 + 1) (n2 + 1)) (n2 + 1) Lx := by
        rw [← hw5, ← hLx]
        exact ((((HOW4.out.stored (k * 4) (.int .i64 fa)).1.stored (k * 4 + 1) (.int .i64 fb)).1.stored (k * 4 + 2) (.int .i64 fc)).1.stored (k * 4 + 3) (.int .i64 fd)).1
      have hfin : Lx.take ((k + 1) * 4) ++ (fs.drop k).flatMap Q4.cells = (afF fs ⟨fa, fb, fc, fd⟩).flatMap Q4.cells := by
        rw [← hLx, HINS.out]
        exact ins_cells (f := ⟨fa, fb, fc, fd⟩) HKL9.out (by rw [List.length_drop, hold9]; have := HL2.out; omega)
      have HFIN := Lib.hid hfin
      have hb5 : Below W0.heap.size W0 w5 := by
        rw [← hw5]
        exact (((HB4.out.setCell (p := ⟨gF, k * 4, none⟩) HG0.out _).setCell (p := ⟨gF, k * 4 + 1, none⟩) HG0.out _).setCell (p := ⟨gF, k * 4 + 2, none⟩) HG0.out _).setCell (p := ⟨gF, k * 4 + 3, none⟩) HG0.out _
      have HB5 := Lib.hid hb5
      have HB5W := Lib.hid (HB0.out.trans (hb5.mono HB0.out.size))
      try rw [hw5]
      clear hw5 hLx hfin hb5 hln4 c0 c1_ c2_ c3_ z0 z1 z2 z3 hgl k0 k1 k01 k2 k3 k4 k5 k6
      obtain ⟨⟨k0, k1, k01⟩, k2, k3, k4, k5, k6⟩ := HK.out w5 HB5.out
      have hsrc2 := (q4_src (HNT.out.moved HB5W.out).rd2 k HKL9.out rfl).2
      have HOW5 := Lib.hid hown5
      have HSRC2 : Hid (∀ (u : World), (∀ p, u.cell? p = w5.cell? p) → ∀ j v, ((fs.drop k).flatMap Q4.cells)[j]? = some v → u.cell? ((⟨g2, k * 4, none⟩ : Addr).add j) = some v) := Lib.hid fun u hu j v hv => by rw [hu]; exact hsrc2 j v hv
      clear hsrc2 hown5
      have hwk : IntKind.i64.wrap ((k : Int) + 1) = (k : Int) + 1 := by rw [IntKind.wrap_i64]; omega
      have hk00 : (0 : Int) ≤ (k : Int) + 1 := by omega
      by_cases hkn : k < n2
      case pos =>
        have hnk : ¬ n2 = k := by omega
        have hckn : ¬ c2 = k := by omega
        have hk1 : (k : Int) + 1 ≤ (n2 : Int) + 1 := by omega
        go_wp2_with fail
        go_region_law (refine step_copyK (by rfl) (.tmp 57) (.tmp 61) 29 29 (by rfl) 35 Try.underlying29 4 hsz4 gF gF (n2 + 1) Lx (by first | exact HOW5.out | exact own_heapW rfl HOW5.out) ((k + 1) * 4) (n2 - k) (n2 - k) (n2 - k) (n2 - k) ⟨g2, k * 4, none⟩ (c2 - k) (by rfl) (by rfl) (by omega) ((fs.drop k).flatMap Q4.cells) hcs2 (by rw [hcs2]; omega) (HSRC2.out _ (fun p => rfl)) (q4_ones _) ?_; intro w6 hown6 hb6)
        all_goals
          have hown7 : w6.ownsRow gF 35 4 (.slice (some ⟨gF, 0, none⟩) (n2 + 1) (n2 + 1)) (n2 + 1) ((afF fs ⟨fa, fb, fc, fd⟩).flatMap Q4.cells) := by
            have h9 := hown6
            simp only [List.append_nil, hcs2] at h9
            rw [List.drop_of_length_le (l := Lx) (by have := HOW5.out.1; omega), List.append_nil] at h9
            have h8 := HFIN.out
            first
              | (rw [h8] at h9; exact h9)
              | (rw [List.drop_of_length_le (l := fs) (by have := HL2.out; omega), List.flatMap_nil, List.append_nil] at h8; rw [h8] at h9; exact h9)
          have HOW7 := Lib.hid hown7
          have HB6 : Hid (Below W0.heap.size W0 w6) := Lib.hid (by first | exact HB5.out.trans (hb6.mono HG0.out) | exact HB5.out.drew.trans (hb6.mono HG0.out))
          have HB6W := Lib.hid (HB0.out.trans (HB6.out.mono HB0.out.size))
          clear hown6 hown7 hb6 k0 k1 k01 k2 k3 k4 k5 k6
          obtain ⟨⟨k0, k1, k01⟩, k2, k3, k4, k5, k6⟩ := HK.out w6 HB6.out
          clear hsz4 hwk hk00 hk1 hnk hckn hcs1 hcs2 hold9 HSRC2 hkn1
          have CN := Lib.hid (copyNames_ g1 n1 c1 ss w6 HL1.out (by rw [← HL1.out]; exact (net_smallA HP.out).1) (net_smallA HP.out).2 (HNT.out.moved HB6W.out).rd1)
          clear k1 k2 k3 k4 k5 k6 hkc hkcN hkn
          go_wp2_with fail
          refine CN.out.mono ?_
          rintro e w7 ⟨gN, rfl, ho7, hb7⟩
          have HB7 := Lib.hid (HB6.out.trans (hb7.mono HB6.out.size))
          have HOF7 := Lib.hid (ownB HOW7.out hb7)
          have HON7 := Lib.hid ho7
          obtain ⟨bx, hbx⟩ : ∃ b, w7.heap.size = b := ⟨_, rfl⟩
          obtain ⟨w8, hw8⟩ : ∃ u, w7.alloc (Obj.cells #[.slice (some ⟨gN, 0, none⟩) n1 n1, .slice (some ⟨gF, 0, none⟩) (n2 + 1) (n2 + 1)] 31) = u := ⟨_, rfl⟩
          have hb8 : Below w7.heap.size w7 w8 := by rw [← hw8]; exact (Below.refl _ _).alloc (Nat.le_refl _) _
          have hrx : w8.ownsRow bx 31 2 (.slice (some ⟨bx, 0, none⟩) 1 1) 1 [.slice (some ⟨gN, 0, none⟩) n1 n1, .slice (some ⟨gF, 0, none⟩) (n2 + 1) (n2 + 1)] := by rw [← hw8, ← hbx]; exact one_rowN w7 _ _ (Nat.le_refl _)
          have HB8 := Lib.hid (HB7.out.trans (hb8.mono HB7.out.size))
          have HB8W := Lib.hid (HB0.out.trans (HB8.out.mono HB0.out.size))
          have HOF8 := Lib.hid (ownB HOF7.out hb8); have HON8 := Lib.hid (ownB HON7.out hb8)
          have HRX := Lib.hid hrx
          have HNE8 : Hid (NetAt gN gF n1 (n2 + 1) n1 (n2 + 1) ss (afF fs ⟨fa, fb, fc, fd⟩) w8) := Lib.hid ⟨HL1.out, HNT.out.sm1, Nat.le_refl _, Rd.ofOwn HON8.out, HNT.out.ws, by rw [afF_len, HL2.out], by omega, rdOwnA HOF8.out⟩
          have CV := Lib.hid (implNet_ HNE8.out)
          obtain ⟨vb, hvb⟩ : ∃ b, pb (netP ss (afF fs ⟨fa, fb, fc, fd⟩)) = b := ⟨_, rfl⟩
          rw [hvb] at CV
          have HVB := Lib.hid hvb
          have HBXG : Hid (w.heap.size + 3 ≤ bx) := Lib.hid (by have := HB7.out.size; have := HZ0.out; omega)
          clear hvb ho7 hb7 hb8 k0 k01
          obtain ⟨y0, y1, _, _, y2⟩ := nx_facts hrx
          clear hrx
          go_wp2_with fail
          try rw [hbx]
          try rw [hw8]
          clear hw8 hbx
          refine CV.out.mono ?_
          rintro e w9 ⟨rfl, hb9⟩
          have HB9 := Lib.hid (HB8.out.trans (hb9.mono HB8.out.size))
          have HB9W := Lib.hid (HB0.out.trans (HB9.out.mono HB0.out.size))
          obtain ⟨s0, s1, s2, s3, s4⟩ := HS.out w9 HB9.out
          obtain ⟨x0, x1, _, _, x2⟩ := nx_facts (ownB HRX.out hb9)
          have HOF9 := Lib.hid (ownB HOF8.out hb9); have HON9 := Lib.hid (ownB HON8.out hb9)
          have hne1 : ¬ (bx = w.heap.size + 2) := by have := HBXG.out; omega
          have hne2 : ¬ (w.heap.size + 2 = bx) := fun e => hne1 e.symm
          clear hb9 y0 y1 y2
          cases vb
          case false =>
            have HNB := Lib.hid (HNO.out (fun hp => of_npb HVB.out ((af_net HP.out).2 hp.2)))
            obtain ⟨rfl, rfl, rfl, rfl⟩ := HNB.out
            go_wp2
            refine bodyPost_ret (v := .tuple #[.agg #[.slice none 0 0, .slice none 0 0], .int .i64 0, .bool false]) ?_ rfl ?_
            · simp [results, Try.results14, go_sem, s0, s1, s4]
            · exact NfI_fin (b := w.heap.size + 2) (B := w.heap.size + 3) (by omega) (by omega) rfl rfl (World.ownsRow_nil _ _ _ _) (World.ownsRow_nil _ _ _ _) HB9W.out
          case true =>
            have HYB := Lib.hid (HYES.out ⟨HP.out, (af_net HP.out).1 (of_pb HVB.out)⟩)
            rw [HPK.out] at HYB
            obtain ⟨e1, e2, rfl, rfl⟩ := HYB.out
            have E1 := Lib.hid e1; have E2 := Lib.hid e2
            clear e1 e2
            go_wp2
            refine bodyPost_ret (v := .tuple #[.agg #[.slice (some ⟨gN, 0, none⟩) n1 n1, .slice (some ⟨gF, 0, none⟩) (n2 + 1) (n2 + 1)], .int .i64 (k : Int), .bool true]) ?_ rfl ?_
            · simp [results, Try.results14, go_sem, s0, s1, s4]
            · rw [E1.out, E2.out]
              exact NfI_fin (b := w.heap.size + 2) (B := w.heap.size + 3) (by omega) (by omega) HL1.out.symm (by rw [afF_len, HL2.out]) (own_base HON9.out (by have := HB6.out.size; have := HZ0.out; omega)) (own_base HOF9.out (by have := HG0.out; have := HZ0.out; omega)) HB9W.out
      case neg =>
        have ekn : n2 = k := by omega
        subst ekn
        by_cases hcn : c2 = n2
        case pos =>
          subst hcn
          go_wp2_with fail
          go_region_law (refine step_copyK (by rfl) (.tmp 57) (.tmp 61) 29 29 (by rfl) 35 Try.underlying29 4 hsz4 gF gF (c2 + 1) Lx (by first | exact HOW5.out | exact own_heapW rfl HOW5.out) 0 0 0 0 0 ⟨g2, 0, none⟩ (0) (by rfl) (by rfl) (by omega) [] rfl (by simp) (fun j u hu => by simp at hu) (fun u hu => by simp at hu) ?_; intro w6 hown6 hb6)
          all_goals
            have hown7 : w6.ownsRow gF 35 4 (.slice (some ⟨gF, 0, none⟩) (c2 + 1) (c2 + 1)) (c2 + 1) ((afF fs ⟨fa, fb, fc, fd⟩).flatMap Q4.cells) := by
              have h9 := hown6
              simp only [List.take_zero, List.nil_append, List.append_nil, List.length_nil, Nat.add_zero, List.drop_zero] at h9
              have h8 := HFIN.out
              rw [List.take_of_length_le (by have := HOW5.out.1; omega), List.drop_of_length_le (l := fs) (by have := HL2.out; omega), List.flatMap_nil, List.append_nil] at h8
              rw [← h8]; exact h9
            have HOW7 := Lib.hid hown7
            have HB6 : Hid (Below W0.heap.size W0 w6) := Lib.hid (by first | exact HB5.out.trans (hb6.mono HG0.out) | exact HB5.out.drew.trans (hb6.mono HG0.out))
            have HB6W := Lib.hid (HB0.out.trans (HB6.out.mono HB0.out.size))
            clear hown6 hown7 hb6 k0 k1 k01 k2 k3 k4 k5 k6
            obtain ⟨⟨k0, k1, k01⟩, k2, k3, k4, k5, k6⟩ := HK.out w6 HB6.out
            clear hsz4 hwk hk00 hcs1 hcs2 hold9 HSRC2 hkn1
            have CN := Lib.hid (copyNames_ g1 n1 c1 ss w6 HL1.out (by rw [← HL1.out]; exact (net_smallA HP.out).1) (net_smallA HP.out).2 (HNT.out.moved HB6W.out).rd1)
            clear k1 k2 k3 k4 k5 k6 hkc hkcN
            go_wp2_with fail
            refine CN.out.mono ?_
            rintro e w7 ⟨gN, rfl, ho7, hb7⟩
            have HB7 := Lib.hid (HB6.out.trans (hb7.mono HB6.out.size))
            have HOF7 := Lib.hid (ownB HOW7.out hb7)
            have HON7 := Lib.hid ho7
            obtain ⟨bx, hbx⟩ : ∃ b, w7.heap.size = b := ⟨_, rfl⟩
            obtain ⟨w8, hw8⟩ : ∃ u, w7.alloc (Obj.cells #[.slice (some ⟨gN, 0, none⟩) n1 n1, .slice (some ⟨gF, 0, none⟩) (c2 + 1) (c2 + 1)] 31) = u := ⟨_, rfl⟩
            have hb8 : Below w7.heap.size w7 w8 := by rw [← hw8]; exact (Below.refl _ _).alloc (Nat.le_refl _) _
            have hrx : w8.ownsRow bx 31 2 (.slice (some ⟨bx, 0, none⟩) 1 1) 1 [.slice (some ⟨gN, 0, none⟩) n1 n1, .slice (some ⟨gF, 0, none⟩) (c2 + 1) (c2 + 1)] := by rw [← hw8, ← hbx]; exact one_rowN w7 _ _ (Nat.le_refl _)
            have HB8 := Lib.hid (HB7.out.trans (hb8.mono HB7.out.size))
            have HB8W := Lib.hid (HB0.out.trans (HB8.out.mono HB0.out.size))
            have HOF8 := Lib.hid (ownB HOF7.out hb8); have HON8 := Lib.hid (ownB HON7.out hb8)
            have HRX := Lib.hid hrx
            have HNE8 : Hid (NetAt gN gF n1 (c2 + 1) n1 (c2 + 1) ss (afF fs ⟨fa, fb, fc, fd⟩) w8) := Lib.hid ⟨HL1.out, HNT.out.sm1, Nat.le_refl _, Rd.ofOwn HON8.out, HNT.out.ws, by rw [afF_len, HL2.out], by omega, rdOwnA HOF8.out⟩
            have CV := Lib.hid (implNet_ HNE8.out)
            obtain ⟨vb, hvb⟩ : ∃ b, pb (netP ss (afF fs ⟨fa, fb, fc, fd⟩)) = b := ⟨_, rfl⟩
            rw [hvb] at CV
            have HVB := Lib.hid hvb
            have HBXG : Hid (w.heap.size + 3 ≤ bx) := Lib.hid (by have := HB7.out.size; have := HZ0.out; omega)
            clear hvb ho7 hb7 hb8 k0 k01
            obtain ⟨y0, y1, _, _, y2⟩ := nx_facts hrx
            clear hrx
            go_wp2_with fail
            try rw [hbx]
            try rw [hw8]
            clear hw8 hbx
            refine CV.out.mono ?_
            rintro e w9 ⟨rfl, hb9⟩
            have HB9 := Lib.hid (HB8.out.trans (hb9.mono HB8.out.size))
            have HB9W := Lib.hid (HB0.out.trans (HB9.out.mono HB0.out.size))
            obtain ⟨s0, s1, s2, s3, s4⟩ := HS.out w9 HB9.out
            obtain ⟨x0, x1, _, _, x2⟩ := nx_facts (ownB HRX.out hb9)
            have HOF9 := Lib.hid (ownB HOF8.out hb9); have HON9 := Lib.hid (ownB HON8.out hb9)
            have hne1 : ¬ (bx = w.heap.size + 2) := by have := HBXG.out; omega
            have hne2 : ¬ (w.heap.size + 2 = bx) := fun e => hne1 e.symm
            clear hb9 y0 y1 y2
            cases vb
            case false =>
              have HNB := Lib.hid (HNO.out (fun hp => of_npb HVB.out ((af_net HP.out).2 hp.2)))
              obtain ⟨rfl, rfl, rfl, rfl⟩ := HNB.out
              go_wp2
              refine bodyPost_ret (v := .tuple #[.agg #[.slice none 0 0, .slice none 0 0], .int .i64 0, .bool false]) ?_ rfl ?_
              · simp [results, Try.results14, go_sem, s0, s1, s4]
              · exact NfI_fin (b := w.heap.size + 2) (B := w.heap.size + 3) (by omega) (by omega) rfl rfl (World.ownsRow_nil _ _ _ _) (World.ownsRow_nil _ _ _ _) HB9W.out
            case true =>
              have HYB := Lib.hid (HYES.out ⟨HP.out, (af_net HP.out).1 (of_pb HVB.out)⟩)
              rw [HPK.out] at HYB
              obtain ⟨e1, e2, rfl, rfl⟩ := HYB.out
              have E1 := Lib.hid e1; have E2 := Lib.hid e2
              clear e1 e2
              go_wp2
              refine bodyPost_ret (v := .tuple #[.agg #[.slice (some ⟨gN, 0, none⟩) n1 n1, .slice (some ⟨gF, 0, none⟩) (c2 + 1) (c2 + 1)], .int .i64 (c2 : Int), .bool true]) ?_ rfl ?_
              · simp [results, Try.results14, go_sem, s0, s1, s4]
              · rw [E1.out, E2.out]
                exact NfI_fin (b := w.heap.size + 2) (B := w.heap.size + 3) (by omega) (by omega) HL1.out.symm (by rw [afF_len, HL2.out]) (own_base HON9.out (by have := HB6.out.size; have := HZ0.out; omega)) (own_base HOF9.out (by have := HG0.out; have := HZ0.out; omega)) HB9W.out
        case neg =>
          go_wp2_with fail
          go_region_law (refine step_copyK (by rfl) (.tmp 57) (.tmp 61) 29 29 (by rfl) 35 Try.underlying29 4 hsz4 gF gF (n2 + 1) Lx (by first | exact HOW5.out | exact own_heapW rfl HOW5.out) 0 0 0 0 0 ⟨g2, n2 * 4, none⟩ (c2 - n2) (by rfl) (by rfl) (by omega) [] rfl (by simp) (fun j u hu => by simp at hu) (fun u hu => by simp at hu) ?_; intro w6 hown6 hb6)
          all_goals
            have hown7 : w6.ownsRow gF 35 4 (.slice (some ⟨gF, 0, none⟩) (n2 + 1) (n2 + 1)) (n2 + 1) ((afF fs ⟨fa, fb, fc, fd⟩).flatMap Q4.cells) := by
              have h9 := hown6
              simp only [List.take_zero, List.nil_append, List.append_nil, List.length_nil, Nat.add_zero, List.drop_zero] at h9
              have h8 := HFIN.out
              rw [List.take_of_length_le (by have := HOW5.out.1; omega), List.drop_of_length_le (l := fs) (by have := HL2.out; omega), List.flatMap_nil, List.append_nil] at h8
              rw [← h8]; exact h9
            have HOW7 := Lib.hid hown7
            have HB6 : Hid (Below W0.heap.size W0 w6) := Lib.hid (by first | exact HB5.out.trans (hb6.mono HG0.out) | exact HB5.out.drew.trans (hb6.mono HG0.out))
            have HB6W := Lib.hid (HB0.out.trans (HB6.out.mono HB0.out.size))
            clear hown6 hown7 hb6 k0 k1 k01 k2 k3 k4 k5 k6
            obtain ⟨⟨k0, k1, k01⟩, k2, k3, k4, k5, k6⟩ := HK.out w6 HB6.out
            clear hsz4 hwk hk00 hcs1 hcs2 hold9 HSRC2 hkn1
            have CN := Lib.hid (copyNames_ g1 n1 c1 ss w6 HL1.out (by rw [← HL1.out]; exact (net_smallA HP.out).1) (net_smallA HP.out).2 (HNT.out.moved HB6W.out).rd1)
            clear k1 k2 k3 k4 k5 k6 hkc hkcN
            go_wp2_with fail
            refine CN.out.mono ?_
            rintro e w7 ⟨gN, rfl, ho7, hb7⟩
            have HB7 := Lib.hid (HB6.out.trans (hb7.mono HB6.out.size))
            have HOF7 := Lib.hid (ownB HOW7.out hb7)
            have HON7 := Lib.hid ho7
            obtain ⟨bx, hbx⟩ : ∃ b, w7.heap.size = b := ⟨_, rfl⟩
            obtain ⟨w8, hw8⟩ : ∃ u, w7.alloc (Obj.cells #[.slice (some ⟨gN, 0, none⟩) n1 n1, .slice (some ⟨gF, 0, none⟩) (n2 + 1) (n2 + 1)] 31) = u := ⟨_, rfl⟩
            have hb8 : Below w7.heap.size w7 w8 := by rw [← hw8]; exact (Below.refl _ _).alloc (Nat.le_refl _) _
            have hrx : w8.ownsRow bx 31 2 (.slice (some ⟨bx, 0, none⟩) 1 1) 1 [.slice (some ⟨gN, 0, none⟩) n1 n1, .slice (some ⟨gF, 0, none⟩) (n2 + 1) (n2 + 1)] := by rw [← hw8, ← hbx]; exact one_rowN w7 _ _ (Nat.le_refl _)
            have HB8 := Lib.hid (HB7.out.trans (hb8.mono HB7.out.size))
            have HB8W := Lib.hid (HB0.out.trans (HB8.out.mono HB0.out.size))
            have HOF8 := Lib.hid (ownB HOF7.out hb8); have HON8 := Lib.hid (ownB HON7.out hb8)
            have HRX := Lib.hid hrx
            have HNE8 : Hid (NetAt gN gF n1 (n2 + 1) n1 (n2 + 1) ss (afF fs ⟨fa, fb, fc, fd⟩) w8) := Lib.hid ⟨HL1.out, HNT.out.sm1, Nat.le_refl _, Rd.ofOwn HON8.out, HNT.out.ws, by rw [afF_len, HL2.out], by omega, rdOwnA HOF8.out⟩
            have CV := Lib.hid (implNet_ HNE8.out)
            obtain ⟨vb, hvb⟩ : ∃ b, pb (netP ss (afF fs ⟨fa, fb, fc, fd⟩)) = b := ⟨_, rfl⟩
            rw [hvb] at CV
            have HVB := Lib.hid hvb
            have HBXG : Hid (w.heap.size + 3 ≤ bx) := Lib.hid (by have := HB7.out.size; have := HZ0.out; omega)
            clear hvb ho7 hb7 hb8 k0 k01
            obtain ⟨y0, y1, _, _, y2⟩ := nx_facts hrx
            clear hrx
            go_wp2_with fail
            try rw [hbx]
            try rw [hw8]
            clear hw8 hbx
            refine CV.out.mono ?_
            rintro e w9 ⟨rfl, hb9⟩
            have HB9 := Lib.hid (HB8.out.trans (hb9.mono HB8.out.size))
            have HB9W := Lib.hid (HB0.out.trans (HB9.out.mono HB0.out.size))
            obtain ⟨s0, s1, s2, s3, s4⟩ := HS.out w9 HB9.out
            obtain ⟨x0, x1, _, _, x2⟩ := nx_facts (ownB HRX.out hb9)
            have HOF9 := Lib.hid (ownB HOF8.out hb9); have HON9 := Lib.hid (ownB HON8.out hb9)
            have hne1 : ¬ (bx = w.heap.size + 2) := by have := HBXG.out; omega
            have hne2 : ¬ (w.heap.size + 2 = bx) := fun e => hne1 e.symm
            clear hb9 y0 y1 y2
            cases vb
            case false =>
              have HNB := Lib.hid (HNO.out (fun hp => of_npb HVB.out ((af_net HP.out).2 hp.2)))
              obtain ⟨rfl, rfl, rfl, rfl⟩ := HNB.out
              go_wp2
              refine bodyPost_ret (v := .tuple #[.agg #[.slice none 0 0, .slice none 0 0], .int .i64 0, .bool false]) ?_ rfl ?_
              · simp [results, Try.results14, go_sem, s0, s1, s4]
              · exact NfI_fin (b := w.heap.size + 2) (B := w.heap.size + 3) (by omega) (by omega) rfl rfl (World.ownsRow_nil _ _ _ _) (World.ownsRow_nil _ _ _ _) HB9W.out
            case true =>
              have HYB := Lib.hid (HYES.out ⟨HP.out, (af_net HP.out).1 (of_pb HVB.out)⟩)
              rw [HPK.out] at HYB
              obtain ⟨e1, e2, rfl, rfl⟩ := HYB.out
              have E1 := Lib.hid e1; have E2 := Lib.hid e2
              clear e1 e2
              go_wp2
              refine bodyPost_ret (v := .tuple #[.agg #[.slice (some ⟨gN, 0, none⟩) n1 n1, .slice (some ⟨gF, 0, none⟩) (n2 + 1) (n2 + 1)], .int .i64 (n2 : Int), .bool true]) ?_ rfl ?_
              · simp [results, Try.results14, go_sem, s0, s1, s4]
              · rw [E1.out, E2.out]
                exact NfI_fin (b := w.heap.size + 2) (B := w.heap.size + 3) (by omega) (by omega) HL1.out.symm (by rw [afF_len, HL2.out]) (own_base HON9.out (by have := HB6.out.size; have := HZ0.out; omega)) (own_base HOF9.out (by have := HG0.out; have := HZ0.out; omega)) HB9W.out
    case pos =>
    have hkl : k < fs.length := by have := HL2.out; omega
    obtain ⟨q, hq⟩ : ∃ q, fs[k]'hkl = q := ⟨_, rfl⟩
    have HQ := Lib.hid hq
    have HQC : Hid (∀ x, g2 < (F x).heap.size ∧ (F x).cell? ⟨g2, k * 4, none⟩ = some (.int .i64 q.a) ∧ (F x).cell? ⟨g2, k * 4 + 1, none⟩ = some (.int .i64 q.b) ∧ (F x).cell? ⟨g2, k * 4 + 2, none⟩ = some (.int .i64 q.c) ∧ (F x).cell? ⟨g2, k * 4 + 3, none⟩ = some (.int .i64 q.d)) := Lib.hid fun x => by
      have h9 := (HNT.out.moved (HB0.out.trans ((HBX.out x).mono HB0.out.size))).rd2.q4c hkl
      rw [Nat.zero_add, hq] at h9
      exact h9
    obtain ⟨qa, qb, qc, qd⟩ := q
    simp only at HQC
    have t0 : ∀ x, g2 < (F x).heap.size := fun x => (HQC.out x).1
    have t1 : ∀ x, (F x).cell? ⟨g2, k * 4, none⟩ = some (.int .i64 qa) := fun x => (HQC.out x).2.1
    have t2 : ∀ x, (F x).cell? ⟨g2, k * 4 + 1, none⟩ = some (.int .i64 qb) := fun x => (HQC.out x).2.2.1
    have t3 : ∀ x, (F x).cell? ⟨g2, k * 4 + 2, none⟩ = some (.int .i64 qc) := fun x => (HQC.out x).2.2.2.1
    have t4 : ∀ x, (F x).cell? ⟨g2, k * 4 + 3, none⟩ = some (.int .i64 qd) := fun x => (HQC.out x).2.2.2.2
    have hkI : (k : Int) < (n2 : Int) := by omega
    have hkD : decide ((k : Int) < (n2 : Int)) = true := decide_eq_true hkI
    clear hq
    by_cases heq : qa = fa ∧ qb = fb ∧ qc = fc ∧ qd = fd
    case pos =>
      obtain ⟨rfl, rfl, rfl, rfl⟩ := heq
      have HALL2 : Hid (∀ j (hj : j < k + 1) (hl : j < fs.length), leF fs[j] ⟨qa, qb, qc, qd⟩) := Lib.hid (fun j hj hl => by
        by_cases e : j = k
        · subst e; exact .inl HQ.out
        · exact HALL.out j (by omega) hl)
      go_wp2_with fail
      refine wp_region_class F (by kernel_rfl) (by kernel_rfl) x0 HXX.out ?_
      repeat (go_big_quiet_step (fail))
      refine wpQuiet_nil ?_
      rintro _ ⟨t, rfl⟩
      have HBT := Lib.hid (HBX.out t)
      clear s1 s2 s3 s4 s5 s6 s7 t0 t1 t2 t3 t4 hkD
      generalize F t = w2 at HBT ⊢
      go_wp2
      go_roundw
      case rel => exact ⟨k + 1, by omega, by go_num, HALL2, HBT.out⟩
      case measure => simp [intOf]; omega
    case neg =>
      have hneD : decide (qa = fa ∧ qb = fb ∧ qc = fc ∧ qd = fd) = false := decide_eq_false heq
      obtain ⟨lb, hlb⟩ : ∃ b, pb (lexLt ⟨qa, qb, qc, qd⟩ ⟨fa, fb, fc, fd⟩) = b := ⟨_, rfl⟩
      have CL : Hid (∀ x, Calls Try.prog 60 #[.agg #[.int .i64 qa, .int .i64 qb, .int .i64 qc, .int .i64 qd], .agg #[.int .i64 fa, .int .i64 fb, .int .i64 fc, .int .i64 fd]] (F x) (RetP (.bool lb) (F x))) := Lib.hid fun x => by
        rw [← hlb]; exact less_any ⟨qa, qb, qc, qd⟩ ⟨fa, fb, fc, fd⟩ (F x)
      have HLB := Lib.hid hlb
      clear hlb
      go_wp2_with fail
      refine wp_region_class F (by kernel_rfl) (by kernel_rfl) x0 HXX.out ?_
      repeat (go_big_quiet_step (first | (go_at_call 60; exact Calls.inClass HST (CL.out _))))
      refine wpQuiet_step (fun K hK => ?_)
      go_simp
      refine ⟨.bool false, fun a => ?_, hK _ ?_⟩
      · by_cases e1 : qa = fa
        · by_cases e2 : qb = fb
          · by_cases e3 : qc = fc
            · by_cases e4 : qd = fd
              · exact absurd ⟨e1, e2, e3, e4⟩ heq
              · simp [e1, e2, e3, e4]
            · simp [e1, e2, e3]
          · simp [e1, e2]
        · simp [e1]
      clear hK K
      repeat (go_big_quiet_step (first | (go_at_call 60; exact Calls.inClass HST (CL.out _))))
      refine wpQuiet_nil ?_
      rintro _ ⟨t, rfl⟩
      have HBT := Lib.hid (HBX.out t)
      have HNE := Lib.hid heq
      clear s1 s2 s3 s4 s5 s6 s7 t0 t1 t2 t3 t4 hkD hneD heq
      generalize F t = w2 at HBT ⊢
      cases lb
      case true =>
        have HALL2 : Hid (∀ j (hj : j < k + 1) (hl : j < fs.length), leF fs[j] ⟨fa, fb, fc, fd⟩) := Lib.hid (fun j hj hl => by
          by_cases e : j = k
          · subst e; rw [HQ.out]; exact .inr (of_pb HLB.out)
          · exact HALL.out j (by omega) hl)
        go_wp2
        go_roundw
        case rel => exact ⟨k + 1, by omega, by go_num, HALL2, HBT.out⟩
        case measure => simp [intOf]; omega
      case false =>
        have HPK : Hid (posF ⟨fa, fb, fc, fd⟩ fs = k) := Lib.hid (HPI.out k (by have := HL2.out; omega) (fun j hj => HALL.out j hj (by have := HL2.out; omega)) (fun h => by
          rw [HQ.out]
          rintro (h9 | h9)
          · injection h9 with e1 e2 e3 e4; exact HNE.out ⟨e1, e2, e3, e4⟩
          · exact of_npb HLB.out h9))
        obtain ⟨⟨k0, k1, k01⟩, k2, k3, k4, k5, k6⟩ := HK.out w2 HBT.out
        have HB2W := Lib.hid (HB0.out.trans (HBT.out.mono HB0.out.size))
        obtain ⟨hkl9, hins⟩ := HPN.out k HPK.out
        have HINS := Lib.hid hins; have HKL9 := Lib.hid hkl9
        have hkc : (k : Int) ≤ (c2 : Int) := by omega
        have hkcN : k ≤ c2 := by omega
        clear hins
        obtain ⟨i0, hi, hz0, hz1, hz2⟩ := info_parts Try.inf_Fib
        have hsz4 : (Try.prog.info? 35).map (·.size) = some 4 := by kernel_rfl
        go_wp2_with (at_make; refine wpList_make_full _ rfl _ _ 29 rfl w2.heap.size 35 i0 _ 4 Try.underlying29 hi hz0 hz1 .i64 .i64 (n2 + 1) (n2 + 1) (n2 + 1) rfl rfl rfl rfl (by rw [hz2]; omega) (by unfold maxLen; omega) (Nat.le_refl _) ?_)
        intro w3 hown hgrow
        obtain ⟨gF, hgF⟩ : ∃ g, w2.heap.size = g := ⟨_, rfl⟩
        have HGF := Lib.hid hgF
        have hb3 : Below w2.heap.size w2 w3 := (Below.refl _ _).grown hgrow (Nat.le_refl _) (fun k h => by cases h)
        obtain ⟨old, hold⟩ : ∃ l, (madeCells #[Value.int .i64 0, .int .i64 0, .int .i64 0, .int .i64 0] ((n2 + 1) * 4)).toList = l := ⟨_, rfl⟩
        rw [hold, hgF] at hown
        have HB3 := Lib.hid (HBT.out.trans (hb3.mono HBT.out.size))
        have HB3W := Lib.hid (HB2W.out.trans (hb3.mono HB2W.out.size))
        clear hold hgrow hi hz0 hz1 hz2 hb3 k0 k1 k01 k2 k3 k4 k5 k6
        try rw [hgF]
        clear hgF
        have hold9 : old.length = (n2 + 1) * 4 := hown.1
        have hcs1 : ((fs.take k).flatMap Q4.cells).length = k * 4 := by rw [q4_len, List.length_take]; omega
        have hcs2 : ((fs.drop k).flatMap Q4.cells).length = (n2 - k) * 4 := by rw [q4_len, List.length_drop]; have := HL2.out; omega
        have hsrc1 := (q4_src (HNT.out.moved HB3W.out).rd2 k HKL9.out rfl).1
        obtain ⟨⟨k0, k1, k01⟩, k2, k3, k4, k5, k6⟩ := HK.out w3 HB3.out
        go_upto_region 7 with fail
        go_wp2_with (with_reducible refine wpList_copy_partK rfl _ _ 29 29 rfl 35 Try.underlying29 4 hsz4 gF gF (n2 + 1) old hown 0 k (n2 + 1) k (n2 + 1) ⟨g2, 0, none⟩ c2 rfl rfl (by omega) ((fs.take k).flatMap Q4.cells) hcs1 (by rw [hcs1]; omega) hsrc1 (q4_ones _) ?_)
        intro w4 hown4 hb4
        have HG0 : Hid (W0.heap.size ≤ gF) := Lib.hid (by have := HBT.out.size; have := HGF.out; omega)
        have HB4 := Lib.hid (HB3.out.trans (hb4.mono HG0.out))
        have HB4W := Lib.hid (HB0.out.trans (HB4.out.mono HB0.out.size))
        clear k0 k1 k01 k2 k3 k4 k5 k6 hsrc1 hb4 hown
        obtain ⟨⟨k0, k1, k01⟩, k2, k3, k4, k5, k6⟩ := HK.out w4 HB4.out
        have z0 := hown4.frozenAt (k * 4); have z1 := hown4.frozenAt (k * 4 + 1); have z2 := hown4.frozenAt (k * 4 + 2); have z3 := hown4.frozenAt (k * 4 + 3)
        have hgl := (hown4.lt gF rfl).2
        have hln4 := hown4.1
        obtain ⟨v0, c0⟩ : ∃ v, w4.cell? ⟨gF, k * 4, none⟩ = some v := ⟨_, (hown4.cellAt (k * 4) (by omega)).trans (List.getElem?_eq_getElem (by omega))⟩
        obtain ⟨v1, c1_⟩ : ∃ v, w4.cell? ⟨gF, k * 4 + 1, none⟩ = some v := ⟨_, (hown4.cellAt (k * 4 + 1) (by omega)).trans (List.getElem?_eq_getElem (by omega))⟩
        obtain ⟨v2, c2_⟩ : ∃ v, w4.cell? ⟨gF, k * 4 + 2, none⟩ = some v := ⟨_, (hown4.cellAt (k * 4 + 2) (by omega)).trans (List.getElem?_eq_getElem (by omega))⟩
        obtain ⟨v3, c3_⟩ : ∃ v, w4.cell? ⟨gF, k * 4 + 3, none⟩ = some v := ⟨_, (hown4.cellAt (k * 4 + 3) (by omega)).trans (List.getElem?_eq_getElem (by omega))⟩
        have hkn1 : (k : Int) < (n2 : Int) + 1 := by omega
        have HOW4 := Lib.hid hown4
        clear hown4
        go_upto_region 9 with fail
        obtain ⟨w5, hw5⟩ : ∃ w5, (((w4.setCell ⟨gF, k * 4, none⟩ (.int .i64 fa)).setCell ⟨gF, k * 4 + 1, none⟩ (.int .i64 fb)).setCell ⟨gF, k * 4 + 2, none⟩ (.int .i64 fc)).setCell ⟨gF, k * 4 + 3, none⟩ (.int .i64 fd) = w5 := ⟨_, rfl⟩
        obtain ⟨Lx, hLx⟩ : ∃ l, ((((((fs.take k).flatMap Q4.cells ++ old.drop (k * 4)).set (k * 4) (.int .i64 fa)).set (k * 4 + 1) (.int .i64 fb)).set (k * 4 + 2) (.int .i64 fc)).set (k * 4 + 3) (.int .i64 fd)) = l := ⟨_, rfl⟩
        have hown5 : w5.ownsRow gF 35 4 (.slice (some ⟨gF, 0, none⟩) (n2 + 1) (n2 + 1)) (n2 + 1) Lx := by
          rw [← hw5, ← hLx]
          exact ((((HOW4.out.stored (k * 4) (.int .i64 fa)).1.stored (k * 4 + 1) (.int .i64 fb)).1.stored (k * 4 + 2) (.int .i64 fc)).1.stored (k * 4 + 3) (.int .i64 fd)).1
        have hfin : Lx.take ((k + 1) * 4) ++ (fs.drop k).flatMap Q4.cells = (afF fs ⟨fa, fb, fc, fd⟩).flatMap Q4.cells := by
          rw [← hLx, HINS.out]
          exact ins_cells (f := ⟨fa, fb, fc, fd⟩) HKL9.out (by rw [List.length_drop, hold9]; have := HL2.out; omega)
        have HFIN := Lib.hid hfin
        have hb5 : Below W0.heap.size W0 w5 := by
          rw [← hw5]
          exact (((HB4.out.setCell (p := ⟨gF, k * 4, none⟩) HG0.out _).setCell (p := ⟨gF, k * 4 + 1, none⟩) HG0.out _).setCell (p := ⟨gF, k * 4 + 2, none⟩) HG0.out _).setCell (p := ⟨gF, k * 4 + 3, none⟩) HG0.out _
        have HB5 := Lib.hid hb5
        have HB5W := Lib.hid (HB0.out.trans (hb5.mono HB0.out.size))
        try rw [hw5]
        clear hw5 hLx hfin hb5 hln4 c0 c1_ c2_ c3_ z0 z1 z2 z3 hgl k0 k1 k01 k2 k3 k4 k5 k6
        obtain ⟨⟨k0, k1, k01⟩, k2, k3, k4, k5, k6⟩ := HK.out w5 HB5.out
        have hsrc2 := (q4_src (HNT.out.moved HB5W.out).rd2 k HKL9.out rfl).2
        have HOW5 := Lib.hid hown5
        have HSRC2 : Hid (∀ (u : World), (∀ p, u.cell? p = w5.cell? p) → ∀ j v, ((fs.drop k).flatMap Q4.cells)[j]? = some v → u.cell? ((⟨g2, k * 4, none⟩ : Addr).add j) = some v) := Lib.hid fun u hu j v hv => by rw [hu]; exact hsrc2 j v hv
        clear hsrc2 hown5
        have hwk : IntKind.i64.wrap ((k : Int) + 1) = (k : Int) + 1 := by rw [IntKind.wrap_i64]; omega
        have hk00 : (0 : Int) ≤ (k : Int) + 1 := by omega
        by_cases hkn : k < n2
        case pos =>
          have hnk : ¬ n2 = k := by omega
          have hckn : ¬ c2 = k := by omega
          have hk1 : (k : Int) + 1 ≤ (n2 : Int) + 1 := by omega
          go_wp2_with fail
          go_region_law (refine step_copyK (by rfl) (.tmp 57) (.tmp 61) 29 29 (by rfl) 35 Try.underlying29 4 hsz4 gF gF (n2 + 1) Lx (by first | exact HOW5.out | exact own_heapW rfl HOW5.out) ((k + 1) * 4) (n2 - k) (n2 - k) (n2 - k) (n2 - k) ⟨g2, k * 4, none⟩ (c2 - k) (by rfl) (by rfl) (by omega) ((fs.drop k).flatMap Q4.cells) hcs2 (by rw [hcs2]; omega) (HSRC2.out _ (fun p => rfl)) (q4_ones _) ?_; intro w6 hown6 hb6)
          all_goals
            have hown7 : w6.ownsRow gF 35 4 (.slice (some ⟨gF, 0, none⟩) (n2 + 1) (n2 + 1)) (n2 + 1) ((afF fs ⟨fa, fb, fc, fd⟩).flatMap Q4.cells) := by
              have h9 := hown6
              simp only [List.append_nil, hcs2] at h9
              rw [List.drop_of_length_le (l := Lx) (by have := HOW5.out.1; omega), List.append_nil] at h9
              have h8 := HFIN.out
              first
                | (rw [h8] at h9; exact h9)
                | (rw [List.drop_of_length_le (l := fs) (by have := HL2.out; omega), List.flatMap_nil, List.append_nil] at h8; rw [h8] at h9; exact h9)
            have HOW7 := Lib.hid hown7
            have HB6 : Hid (Below W0.heap.size W0 w6) := Lib.hid (by first | exact HB5.out.trans (hb6.mono HG0.out) | exact HB5.out.drew.trans (hb6.mono HG0.out))
            have HB6W := Lib.hid (HB0.out.trans (HB6.out.mono HB0.out.size))
            clear hown6 hown7 hb6 k0 k1 k01 k2 k3 k4 k5 k6
            obtain ⟨⟨k0, k1, k01⟩, k2, k3, k4, k5, k6⟩ := HK.out w6 HB6.out
            clear hsz4 hwk hk00 hk1 hnk hckn hcs1 hcs2 hold9 HSRC2 hkn1
            have CN := Lib.hid (copyNames_ g1 n1 c1 ss w6 HL1.out (by rw [← HL1.out]; exact (net_smallA HP.out).1) (net_smallA HP.out).2 (HNT.out.moved HB6W.out).rd1)
            clear k1 k2 k3 k4 k5 k6 hkc hkcN hkn
            go_wp2_with fail
            refine CN.out.mono ?_
            rintro e w7 ⟨gN, rfl, ho7, hb7⟩
            have HB7 := Lib.hid (HB6.out.trans (hb7.mono HB6.out.size))
            have HOF7 := Lib.hid (ownB HOW7.out hb7)
            have HON7 := Lib.hid ho7
            obtain ⟨bx, hbx⟩ : ∃ b, w7.heap.size = b := ⟨_, rfl⟩
            obtain ⟨w8, hw8⟩ : ∃ u, w7.alloc (Obj.cells #[.slice (some ⟨gN, 0, none⟩) n1 n1, .slice (some ⟨gF, 0, none⟩) (n2 + 1) (n2 + 1)] 31) = u := ⟨_, rfl⟩
            have hb8 : Below w7.heap.size w7 w8 := by rw [← hw8]; exact (Below.refl _ _).alloc (Nat.le_refl _) _
            have hrx : w8.ownsRow bx 31 2 (.slice (some ⟨bx, 0, none⟩) 1 1) 1 [.slice (some ⟨gN, 0, none⟩) n1 n1, .slice (some ⟨gF, 0, none⟩) (n2 + 1) (n2 + 1)] := by rw [← hw8, ← hbx]; exact one_rowN w7 _ _ (Nat.le_refl _)
            have HB8 := Lib.hid (HB7.out.trans (hb8.mono HB7.out.size))
            have HB8W := Lib.hid (HB0.out.trans (HB8.out.mono HB0.out.size))
            have HOF8 := Lib.hid (ownB HOF7.out hb8); have HON8 := Lib.hid (ownB HON7.out hb8)
            have HRX := Lib.hid hrx
            have HNE8 : Hid (NetAt gN gF n1 (n2 + 1) n1 (n2 + 1) ss (afF fs ⟨fa, fb, fc, fd⟩) w8) := Lib.hid ⟨HL1.out, HNT.out.sm1, Nat.le_refl _, Rd.ofOwn HON8.out, HNT.out.ws, by rw [afF_len, HL2.out], by omega, rdOwnA HOF8.out⟩
            have CV := Lib.hid (implNet_ HNE8.out)
            obtain ⟨vb, hvb⟩ : ∃ b, pb (netP ss (afF fs ⟨fa, fb, fc, fd⟩)) = b := ⟨_, rfl⟩
            rw [hvb] at CV
            have HVB := Lib.hid hvb
            have HBXG : Hid (w.heap.size + 3 ≤ bx) := Lib.hid (by have := HB7.out.size; have := HZ0.out; omega)
            clear hvb ho7 hb7 hb8 k0 k01
            obtain ⟨y0, y1, _, _, y2⟩ := nx_facts hrx
            clear hrx
            go_wp2_with fail
            try rw [hbx]
            try rw [hw8]
            clear hw8 hbx
            refine CV.out.mono ?_
            rintro e w9 ⟨rfl, hb9⟩
            have HB9 := Lib.hid (HB8.out.trans (hb9.mono HB8.out.size))
            have HB9W := Lib.hid (HB0.out.trans (HB9.out.mono HB0.out.size))
            obtain ⟨s0, s1, s2, s3, s4⟩ := HS.out w9 HB9.out
            obtain ⟨x0, x1, _, _, x2⟩ := nx_facts (ownB HRX.out hb9)
            have HOF9 := Lib.hid (ownB HOF8.out hb9); have HON9 := Lib.hid (ownB HON8.out hb9)
            have hne1 : ¬ (bx = w.heap.size + 2) := by have := HBXG.out; omega
            have hne2 : ¬ (w.heap.size + 2 = bx) := fun e => hne1 e.symm
            clear hb9 y0 y1 y2
            cases vb
            case false =>
              have HNB := Lib.hid (HNO.out (fun hp => of_npb HVB.out ((af_net HP.out).2 hp.2)))
              obtain ⟨rfl, rfl, rfl, rfl⟩ := HNB.out
              go_wp2
              refine bodyPost_ret (v := .tuple #[.agg #[.slice none 0 0, .slice none 0 0], .int .i64 0, .bool false]) ?_ rfl ?_
              · simp [results, Try.results14, go_sem, s0, s1, s4]
              · exact NfI_fin (b := w.heap.size + 2) (B := w.heap.size + 3) (by omega) (by omega) rfl rfl (World.ownsRow_nil _ _ _ _) (World.ownsRow_nil _ _ _ _) HB9W.out
            case true =>
              have HYB := Lib.hid (HYES.out ⟨HP.out, (af_net HP.out).1 (of_pb HVB.out)⟩)
              rw [HPK.out] at HYB
              obtain ⟨e1, e2, rfl, rfl⟩ := HYB.out
              have E1 := Lib.hid e1; have E2 := Lib.hid e2
              clear e1 e2
              go_wp2
              refine bodyPost_ret (v := .tuple #[.agg #[.slice (some ⟨gN, 0, none⟩) n1 n1, .slice (some ⟨gF, 0, none⟩) (n2 + 1) (n2 + 1)], .int .i64 (k : Int), .bool true]) ?_ rfl ?_
              · simp [results, Try.results14, go_sem, s0, s1, s4]
              · rw [E1.out, E2.out]
                exact NfI_fin (b := w.heap.size + 2) (B := w.heap.size + 3) (by omega) (by omega) HL1.out.symm (by rw [afF_len, HL2.out]) (own_base HON9.out (by have := HB6.out.size; have := HZ0.out; omega)) (own_base HOF9.out (by have := HG0.out; have := HZ0.out; omega)) HB9W.out
        case neg => exact absurd (by assumption) hkn
end Go.Proofs.Ytkpendpjdemknaa
