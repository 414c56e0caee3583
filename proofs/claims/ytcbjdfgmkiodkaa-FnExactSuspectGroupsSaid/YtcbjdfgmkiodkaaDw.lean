/- The lights that are down: contract of spec.l25Down. No condition but those typed. -/
import Derived.Test.YtcbjdfgmkiodkaaGD
import Derived.Test.YtcbjdfgmkiodkaaGB
import Derived.Test.YtcbjdfgmkiodkaaCaH
namespace Go.Proofs.Ytcbjdfgmkiodkaa
open Go.ChangeShapes Go.WideShapes Go.ChangeAt Go.RowKit Go.Maps

def las1 (zs : List Int) : Nat → Int
  | 0 => 0
  | k + 1 => nth zs k
def ri1N (zs : List Int) (lim : Int) : Nat → Bool
  | 0 => true
  | k + 1 => ri1N zs lim k && decide (las1 zs k < nth zs k ∧ nth zs k < lim)
def ri1B (zs : List Int) (lim : Int) : Bool := ri1N zs lim zs.length
theorem ri1_last {zs : List Int} {lim : Int} : ∀ {k : Nat}, ri1N zs lim k = true → 0 ≤ las1 zs k ∧ (k = 0 ∨ (1 ≤ las1 zs k ∧ las1 zs k < lim))
  | 0, _ => ⟨Int.le_refl _, .inl rfl⟩
  | k + 1, h => by
    unfold ri1N at h
    simp only [Bool.and_eq_true, decide_eq_true_eq] at h
    obtain ⟨h1, h2, h3⟩ := h
    have := (ri1_last h1).1
    exact ⟨by show 0 ≤ nth zs k; omega, .inr ⟨by show 1 ≤ nth zs k; omega, h3⟩⟩
theorem ri1_yes {zs : List Int} {lim : Int} {k : Nat} (h : ri1N zs lim k = true) (h1 : las1 zs k < nth zs k) (h2 : nth zs k < lim) : ri1N zs lim (k + 1) = true := by
  unfold ri1N; rw [h, decide_eq_true ⟨h1, h2⟩]; rfl
theorem ri1_down {zs : List Int} {lim : Int} {k : Nat} : ∀ d, ri1N zs lim (k + d) = true → ri1N zs lim k = true
  | 0, h => h
  | d + 1, h => by
    have h' : ri1N zs lim (k + d + 1) = true := h
    unfold ri1N at h'
    simp only [Bool.and_eq_true] at h'
    exact ri1_down d h'.1
theorem ri1_no {zs : List Int} {lim : Int} {k : Nat} (hk : k < zs.length) (h : ¬ (las1 zs k < nth zs k ∧ nth zs k < lim)) : ri1B zs lim = false := by
  cases hb : ri1B zs lim with
  | false => rfl
  | true =>
    unfold ri1B at hb
    rw [show zs.length = k + 1 + (zs.length - (k + 1)) by omega] at hb
    have := ri1_down _ hb
    unfold ri1N at this
    simp only [Bool.and_eq_true, decide_eq_true_eq] at this
    exact absurd this.2 h
theorem ri1_end {zs : List Int} {lim : Int} {n : Nat} (hn : zs.length = n) (h : ri1N zs lim n = true) : ri1B zs lim = true := by unfold ri1B; rw [hn]; exact h
set_option maxRecDepth 100000 in
set_option maxHeartbeats 2000000 in
theorem rising1_ (A : Option Addr) (n c : Nat) (zs : List Int) (hi : Int) (w : World) (hn : zs.length = n) (hs : n ≤ 1048576) (hr : Rd w w.heap.size A (zs.map (Value.int .i64))) :
    Calls Try.prog 134 #[.slice A n c, .int .i64 1, .int .i64 hi] w (RetV (.bool (ri1B zs (hi + 1))) w) := by
  have HN := Lib.hid hn; clear hn
  obtain ⟨R, hR⟩ : ∃ r, ri1B zs (hi + 1) = r := ⟨_, rfl⟩
  rw [hR]
  have HR := Lib.hid hR; clear hR
  go_enter Try.func134, Try.ntmps134
  go_wp2
  go_loopw [7] (fun i wr => ∃ k : Nat, k ≤ n ∧ i = .int .i64 k ∧ Hid (ri1N zs (hi + 1) k = true) ∧ Below w.heap.size w wr) (fun i _ => n - (intOf i).toNat)
  case atStart => exact ⟨0, Nat.zero_le _, rfl, Lib.hid rfl, Below.refl _ _⟩
  case round =>
    obtain ⟨k, hk, rfl, HA, hb⟩ := hrel
    by_cases hlt : k < n
    case neg =>
      obtain rfl : k = n := by omega
      obtain rfl : R = true := HR.out.symm.trans (ri1_end HN.out HA.out)
      clear hlt
      go_wp2
      go_ret
      exact retB rfl hb
    case pos =>
    have hks : k < zs.length := by have := HN.out; omega
    have hrw := hr.over hb
    obtain ⟨ad, rfl, _, f0⟩ := hrw.got (k := k) (by simpa using hks)
    simp only [List.getElem_map] at f0
    rw [nth_eq hks] at f0
    obtain ⟨z, hz⟩ : ∃ z, nth zs k = z := ⟨_, rfl⟩
    rw [hz] at f0
    have HZ := Lib.hid hz
    have CI := Lib.hid (fun W => in_ z 1 hi W)
    cases hin : inB z 1 hi
    case false =>
      obtain rfl : R = false := HR.out.symm.trans (ri1_no hks (by
        have h1 := inB_false hin
        have h2 := (ri1_last HA.out).1
        rw [hz]; omega))
      rw [hin] at CI
      clear hz hin HA
      go_wp2
      go_quiet ((go_at_call 140; exact Calls.quiet_of_same ((CI.out _).mono fun e w' h => ⟨h.1, h.2.symm⟩)))
      go_wp2
      go_ret
      exact retB rfl (drewN_below_ hb _)
    case true =>
      rw [hin] at CI
      have HI := Lib.hid (inB_true hin)
      clear hin
      by_cases h0 : k = 0
      · subst h0
        have HS : Hid (ri1N zs (hi + 1) (0 + 1) = true) := Lib.hid (ri1_yes HA.out (by show 0 < nth zs 0; have := HI.out; omega) (by have := HI.out; omega))
        clear hz HA
        have ea : ad.add 0 = ad := by unfold Addr.add; simp
        rw [ea] at f0
        clear ea
        go_wp2
        go_quiet ((go_at_call 140; exact Calls.quiet_of_same ((CI.out _).mono fun e w' h => ⟨h.1, h.2.symm⟩)))
        go_wp2
        go_roundw
        case rel => exact ⟨0 + 1, by omega, rfl, HS, drewN_below_ hb _⟩
        case measure => simp [intOf]; omega
      · obtain ⟨m, hkm⟩ : ∃ m, k = m + 1 := ⟨k - 1, by omega⟩
        have hwr := pred_wrap_ k m hkm (by omega)
        have hms : m < zs.length := by omega
        have hmn : (m : Int) < n := by omega
        have hd0 : decide (0 < k) = true := decide_eq_true (by omega)
        obtain ⟨ad', e', _, f1⟩ := hrw.got (k := m) (by simpa using hms)
        obtain rfl : ad = ad' := by injection e'
        simp only [List.getElem_map] at f1
        rw [nth_eq hms] at f1
        obtain ⟨x, hx⟩ : ∃ x, nth zs m = x := ⟨_, rfl⟩
        rw [hx] at f1
        have HL : Hid (las1 zs k = x) := Lib.hid (by rw [hkm]; exact hx)
        clear hx hkm e'
        by_cases h1 : x < z
        · have HS : Hid (ri1N zs (hi + 1) (k + 1) = true) := Lib.hid (ri1_yes HA.out (by rw [HL.out, HZ.out]; exact h1) (by have := HI.out; rw [HZ.out]; omega))
          have d1 : decide (z ≤ x) = false := decide_eq_false (by omega)
          clear hz HA HL h0
          go_wp2
          go_quiet ((go_at_call 140; exact Calls.quiet_of_same ((CI.out _).mono fun e w' h => ⟨h.1, h.2.symm⟩)))
          clear hwr
          go_wp2
          go_roundw
          case rel => exact ⟨k + 1, by omega, by go_num, HS, drewN_below_ hb _⟩
          case measure => simp [intOf]; omega
        · obtain rfl : R = false := HR.out.symm.trans (ri1_no hks (by rw [HL.out, HZ.out]; omega))
          have h1' : z ≤ x := by omega
          clear hz HA HL h0 h1
          go_wp2
          go_quiet ((go_at_call 140; exact Calls.quiet_of_same ((CI.out _).mono fun e w' h => ⟨h.1, h.2.symm⟩)))
          clear hwr
          go_wp2
          go_ret
          exact retB rfl (drewN_below_ hb _)

def idxD (ds : List LtD) (x : Int) : Nat := (idxN ds x).getD 0
/-- the set of the first k lights that are named. -/
def mskK (ds : List LtD) (zs : List Int) : Nat → Nat
  | 0 => 0
  | k + 1 => mskK ds zs k ||| 2 ^ idxD ds (nth zs k)
theorem msk_lt {ds : List LtD} {zs : List Int} (hl : ds.length ≤ 12) : ∀ {k : Nat}, (∀ j, j < k → (idxN ds (nth zs j)).isSome = true) → mskK ds zs k < 2 ^ 12
  | 0, _ => by show (0 : Nat) < 2 ^ 12; decide
  | k + 1, h => by
    have ih := msk_lt hl (k := k) (fun j hj => h j (by omega))
    obtain ⟨i, hi⟩ := Option.isSome_iff_exists.1 (h k (by omega))
    have h2 := idx_lt hi
    unfold mskK
    refine Nat.or_lt_two_pow ih (Nat.pow_lt_pow_right (by decide) ?_)
    unfold idxD; rw [hi]; show i < 12; omega
def dwP (ss : List ByteArray) (fs : List Q4) (ds : List LtD) (zs : List Int) : Prop := planP ss fs ds ∧ ri1B zs 1000 = true ∧ ∀ k, k < zs.length → (idxN ds (nth zs k)).isSome = true
noncomputable def dwB (ss : List ByteArray) (fs : List Q4) (ds : List LtD) (zs : List Int) : Bool := pb (dwP ss fs ds zs)
noncomputable def dwV (ss : List ByteArray) (fs : List Q4) (ds : List LtD) (zs : List Int) : Int := if dwB ss fs ds zs then (mskK ds zs zs.length : Int) else 0
noncomputable def dwR (ss : List ByteArray) (fs : List Q4) (ds : List LtD) (zs : List Int) : Value := .tuple #[.int .i64 (dwV ss fs ds zs), .bool (dwB ss fs ds zs)]
theorem dw_no {ss : List ByteArray} {fs : List Q4} {ds : List LtD} {zs : List Int} (h : ¬ dwP ss fs ds zs) : (.tuple #[.int .i64 0, .bool false] : Value) = dwR ss fs ds zs := by
  unfold dwR dwV; rw [show dwB ss fs ds zs = false from pb_false h]; rfl
theorem dw_yes {ss : List ByteArray} {fs : List Q4} {ds : List LtD} {zs : List Int} (h : dwP ss fs ds zs) : (.tuple #[.int .i64 (mskK ds zs zs.length : Int), .bool true] : Value) = dwR ss fs ds zs := by
  unfold dwR dwV; rw [show dwB ss fs ds zs = true from pb_true h]; rfl
theorem idxI_some {ds : List LtD} {x : Int} (h : (idxN ds x).isSome = true) : idxI ds x = (idxD ds x : Int) := by
  obtain ⟨i, hi⟩ := Option.isSome_iff_exists.1 h
  unfold idxI idxD; rw [hi]; rfl
theorem idxI_none {ds : List LtD} {x : Int} (h : ¬ (idxN ds x).isSome = true) : idxI ds x = -1 := by
  have h2 : idxN ds x = none := by cases h3 : idxN ds x with
    | none => rfl
    | some i => rw [h3] at h; exact absurd rfl h
  unfold idxI; rw [h2]
theorem idxD_lt {ds : List LtD} {x : Int} (h : (idxN ds x).isSome = true) : idxD ds x < ds.length := by
  obtain ⟨i, hi⟩ := Option.isSome_iff_exists.1 h
  have := idx_lt hi
  unfold idxD; rw [hi]; exact this

set_option maxRecDepth 100000 in
set_option maxHeartbeats 8000000 in
theorem l25Down_ {g1 g2 g3 n1 n2 n3 c1 c2 B : Nat} {ss : List ByteArray} {fs : List Q4} {ys : List Lt} {ds : List LtD} {w : World} (h : NetAt g1 g2 n1 n2 c1 c2 ss fs w) (hT : Lts B g3 n3 ys w) (hd : ys.map Lt.d = ds) (hs : n3 ≤ 1048576) {A : Option Addr} {n c : Nat} {zs : List Int} (hn : zs.length = n) (hr : Rd w w.heap.size A (zs.map (Value.int .i64))) (hx : n ≤ 1048576) :
    Calls Try.prog 150 #[.agg #[.slice (some ⟨g1, 0, none⟩) n1 c1, .slice (some ⟨g2, 0, none⟩) n2 c2, .slice (some ⟨g3, 0, none⟩) n3 n3], .slice A n c] w (RetP (dwR ss fs ds zs) w) := by
  have HNT := Lib.hid h; have HT := Lib.hid hT; have HD := Lib.hid hd; have HN := Lib.hid hn; have HR := Lib.hid hr
  have HLD : Hid (ds.length = n3) := Lib.hid (by rw [← hd, List.length_map]; exact hT.len)
  obtain ⟨R, hR⟩ : ∃ r, dwR ss fs ds zs = r := ⟨_, rfl⟩
  have HNO : Hid (¬ dwP ss fs ds zs → (.tuple #[.int .i64 0, .bool false] : Value) = R) := Lib.hid (fun e => by rw [← hR]; exact dw_no e)
  have HYES : Hid (dwP ss fs ds zs → (.tuple #[.int .i64 (mskK ds zs zs.length : Int), .bool true] : Value) = R) := Lib.hid (fun e => by rw [← hR]; exact dw_yes e)
  rw [hR]
  clear h hT hd hn hr hR
  go_enter Try.func150, Try.ntmps150
  go_wp2_with fail
  obtain ⟨W0, hW0⟩ : ∃ W0, w.alloc (Obj.cells #[.slice (some ⟨g1, 0, none⟩) n1 c1, .slice (some ⟨g2, 0, none⟩) n2 c2, .slice (some ⟨g3, 0, none⟩) n3 n3] 76) = W0 := ⟨_, rfl⟩
  have hb0 : Below w.heap.size w W0 := by rw [← hW0]; exact (Below.refl _ _).alloc (Nat.le_refl _) _
  have k0 : W0.cell? ⟨w.heap.size, 0, none⟩ = some (.slice (some ⟨g1, 0, none⟩) n1 c1) := by rw [← hW0]; simp [go_sem]
  have k1 : W0.cell? ⟨w.heap.size, 1, none⟩ = some (.slice (some ⟨g2, 0, none⟩) n2 c2) := by rw [← hW0]; simp [go_sem]
  have k2 : W0.cell? ⟨w.heap.size, 2, none⟩ = some (.slice (some ⟨g3, 0, none⟩) n3 n3) := by rw [← hW0]; simp [go_sem]
  have hz0 : w.heap.size < W0.heap.size := by rw [← hW0]; simp
  have HB0 := Lib.hid hb0; have HK0 := Lib.hid k0; have HK1 := Lib.hid k1; have HK2 := Lib.hid k2; have HZ0 := Lib.hid hz0
  rw [hW0]
  clear hW0 hb0
  have CG := Lib.hid (l9Good_ (HNT.out.moved HB0.out) (HT.out.moved HB0.out) HD.out hs)
  obtain ⟨v, hv⟩ : ∃ v, pb (planP ss fs ds) = v := ⟨_, rfl⟩
  rw [hv] at CG
  have HVB := Lib.hid hv
  clear hv k0 k1 k2 hz0
  refine CG.out.mono ?_
  rintro e w1 ⟨rfl, hb1⟩
  have HB1 := Lib.hid (HB0.out.trans (hb1.mono HB0.out.size))
  have HB1W := Lib.hid hb1
  clear hb1
  cases v
  case false =>
    have HE := Lib.hid (HNO.out (fun hp => by have h1 := HVB.out; rw [pb_true hp.1] at h1; cases h1))
    go_wp2
    go_ret2
    exact ⟨ret_tupC HE.out, HB1.out⟩
  case true =>
  have HP : Hid (planP ss fs ds) := Lib.hid (of_pb HVB.out)
  have hl12 : n3 ≤ 12 := by have := HP.out.2.1; have := HLD.out; omega
  have CR := Lib.hid (rising1_ A n c zs 999 w1 HN.out hx (HR.out.moved HB1.out))
  rw [show (999 : Int) + 1 = 1000 by omega] at CR
  obtain ⟨b, hb⟩ : ∃ b, ri1B zs 1000 = b := ⟨_, rfl⟩
  rw [hb] at CR
  have HRB := Lib.hid hb
  clear hb
  go_wp2_with fail
  refine CR.out.mono ?_
  rintro e w2 ⟨rfl, hb2⟩
  have HB2 := Lib.hid (HB1.out.trans (hb2.mono HB1.out.size))
  have HB2W := Lib.hid (HB1W.out.trans (hb2.mono HB1W.out.size))
  clear hb2
  cases b
  case false =>
    have HE := Lib.hid (HNO.out (fun hp => by have h1 := hp.2.1; rw [HRB.out] at h1; cases h1))
    go_wp2
    go_ret2
    exact ⟨ret_tupC HE.out, HB2.out⟩
  case true =>
  have HKB : Hid (∀ W, Below W0.heap.size W0 W → W.cell? ⟨w.heap.size, 0, none⟩ = some (.slice (some ⟨g1, 0, none⟩) n1 c1) ∧ W.cell? ⟨w.heap.size, 1, none⟩ = some (.slice (some ⟨g2, 0, none⟩) n2 c2) ∧ W.cell? ⟨w.heap.size, 2, none⟩ = some (.slice (some ⟨g3, 0, none⟩) n3 n3)) := Lib.hid (fun W hW => ⟨(hW.cell (p := ⟨w.heap.size, 0, none⟩) HZ0.out).trans HK0.out, (hW.cell (p := ⟨w.heap.size, 1, none⟩) HZ0.out).trans HK1.out, (hW.cell (p := ⟨w.heap.size, 2, none⟩) HZ0.out).trans HK2.out⟩)
  go_wp2
  go_loopw [6, 7] (fun v i wr => ∃ (k m : Nat), k ≤ n ∧ i = .int .i64 k ∧ v = .int .i64 m ∧ Hid (mskK ds zs k = m) ∧ m < 2 ^ 12 ∧ Hid (∀ j, j < k → (idxN ds (nth zs j)).isSome = true) ∧ Below W0.heap.size W0 wr) (fun _ i _ => n - (intOf i).toNat)
  case atStart => exact ⟨0, 0, Nat.zero_le _, rfl, rfl, Lib.hid rfl, by decide, Lib.hid (fun j hj => by omega), HB2W.out⟩
  case round =>
    obtain ⟨k, m, hk, rfl, rfl, HM, hm, HA, hb⟩ := hrel
    have HBR := Lib.hid hb
    have HBY := Lib.hid (HB0.out.trans (hb.mono HB0.out.size))
    clear hb
    by_cases hlt : k < n
    case neg =>
      obtain rfl : k = n := by omega
      have HE := Lib.hid (HYES.out ⟨HP.out, HRB.out, fun j hj => HA.out j (by have := HN.out; omega)⟩)
      rw [HN.out, HM.out] at HE
      clear hlt
      go_wp2
      go_ret2
      exact ⟨ret_tupC HE.out, HBY.out⟩
    case pos =>
    obtain ⟨T, f, x0, hx0, hTT, HST⟩ := above wr
    haveI : Nonempty T := ⟨x0⟩
    have HXX := Lib.hid hx0
    have HBX : Hid (∀ x, Below w.heap.size w (f x)) := Lib.hid (fun x => HBY.out.trans ((hTT x).mono HBY.out.size))
    have HTX : Hid (∀ x, Below wr.heap.size wr (f x)) := Lib.hid hTT
    clear hTT hx0
    have hks : k < zs.length := by have := HN.out; omega
    obtain ⟨x, hxe⟩ : ∃ x, nth zs k = x := ⟨_, rfl⟩
    have HXE := Lib.hid hxe
    obtain ⟨ad, hA, _, _⟩ := ints_at HR.out hks
    subst hA
    have rx : ∀ y, (f y).cell? (ad.add k) = some (.int .i64 x) := fun y => by
      obtain ⟨ad', e', _, f0⟩ := ints_at (HR.out.moved (HBX.out y)) hks
      obtain rfl : ad = ad' := by injection e'
      rw [nth_eq hks, hxe] at f0
      exact f0
    have rk0 : ∀ x, (f x).cell? ⟨w.heap.size, 0, none⟩ = some (.slice (some ⟨g1, 0, none⟩) n1 c1) := fun x => (HKB.out _ (HBR.out.trans ((HTX.out x).mono HBR.out.size))).1
    have rk1 : ∀ x, (f x).cell? ⟨w.heap.size, 1, none⟩ = some (.slice (some ⟨g2, 0, none⟩) n2 c2) := fun x => (HKB.out _ (HBR.out.trans ((HTX.out x).mono HBR.out.size))).2.1
    have rk2 : ∀ x, (f x).cell? ⟨w.heap.size, 2, none⟩ = some (.slice (some ⟨g3, 0, none⟩) n3 n3) := fun x => (HKB.out _ (HBR.out.trans ((HTX.out x).mono HBR.out.size))).2.2
    have CF : Hid (∀ y, Calls Try.prog 224 #[.agg #[.slice (some ⟨g1, 0, none⟩) n1 c1, .slice (some ⟨g2, 0, none⟩) n2 c2, .slice (some ⟨g3, 0, none⟩) n3 n3], .int .i64 x] (f y) (RetP (.int .i64 (idxI ds x)) (f y))) := Lib.hid fun y => l9Find_ (HNT.out.moved (HBX.out y)) (HT.out.moved (HBX.out y)) HD.out hs x
    clear hxe
    by_cases hf : (idxN ds x).isSome = true
    case neg =>
      have HE := Lib.hid (HNO.out (fun hp => hf (by have h9 := hp.2.2 k (by have := HN.out; omega); rw [HXE.out] at h9; exact h9)))
      rw [idxI_none hf] at CF
      clear hf
      go_wp2_with fail
      refine wp_region_class f (by kernel_rfl) (by kernel_rfl) x0 HXX.out ?_
      repeat (go_big_quiet_step (first | (go_at_call 224; exact Calls.inClass HST (CF.out _))))
      refine wpQuiet_nil ?_
      rintro _ ⟨t, rfl⟩
      have HB4 := Lib.hid (HBX.out t)
      clear rx rk0 rk1 rk2
      go_wp2
      go_ret2
      exact ⟨ret_tupC HE.out, HB4.out⟩
    case pos =>
      rw [idxI_some hf] at CF
      have hil : idxD ds x < 12 := by have := idxD_lt hf; have := HLD.out; omega
      have HM2 : Hid (mskK ds zs (k + 1) = m ||| 2 ^ idxD ds x) := Lib.hid (by unfold mskK; rw [HM.out, HXE.out])
      have HA2 : Hid (∀ j, j < k + 1 → (idxN ds (nth zs j)).isSome = true) := Lib.hid (fun j hj => by
        by_cases e : j = k
        · subst e; rw [HXE.out]; exact hf
        · exact HA.out j (by omega))
      obtain ⟨i, hi⟩ : ∃ i, idxD ds x = i := ⟨_, rfl⟩
      rw [hi] at CF hil HM2
      have hp : 2 ^ i < 2 ^ 12 := Nat.pow_lt_pow_right (by decide) hil
      have hpi : (2 : Int) ^ i = ((2 ^ i : Nat) : Int) := by simp
      have hp0 : 0 ≤ (2 : Int) ^ i := Int.pow_nonneg (by omega)
      have hp1 : (2 : Int) ^ i ≤ 4096 := by rw [hpi]; omega
      have hor : bits .or .i64 (m : Int) ((2 : Int) ^ i) = ((m ||| 2 ^ i : Nat) : Int) := by rw [hpi]; exact or_i64_ m (2 ^ i) (by omega) (by omega)
      have hlm : m ||| 2 ^ i < 2 ^ 12 := Nat.or_lt_two_pow hm hp
      obtain ⟨m2, hm2⟩ : ∃ x, m ||| 2 ^ i = x := ⟨_, rfl⟩
      rw [hm2] at HM2 hor hlm
      clear hm2 hpi hp hi hf
      go_wp2_with fail
      refine wp_region_class f (by kernel_rfl) (by kernel_rfl) x0 HXX.out ?_
      repeat (go_big_quiet_step (first | (go_at_call 224; exact Calls.inClass HST (CF.out _))))
      refine wpQuiet_nil ?_
      rintro _ ⟨t, rfl⟩
      have HB4 := Lib.hid (HBR.out.trans ((HTX.out t).mono HBR.out.size))
      clear rx rk0 rk1 rk2
      go_wp2
      go_roundw
      case rel => exact ⟨k + 1, m2, by omega, by go_num, by go_num, HM2, hlm, HA2, HB4.out⟩
      case measure => simp [intOf]; omega
end Go.Proofs.Ytcbjdfgmkiodkaa
