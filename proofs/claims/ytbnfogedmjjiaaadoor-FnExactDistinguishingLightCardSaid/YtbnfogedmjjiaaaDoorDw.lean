/- The lights that are down: contract of spec.l25Down. No condition but those typed. -/
import Derived.Test.YtbnfogedmjjiaaaDoorGD
import Derived.Test.YtbnfogedmjjiaaaDoorGB
import Derived.Test.YtbnfogedmjjiaaaDoorCaH
namespace Go.Proofs.YtbnfogedmjjiaaaDoor
open Go.ChangeShapes Go.WideShapes Go.ChangeAt Go.RowKit Go.Maps

def las1 (zs : List Int) : Nat → Int
  | 0 => 0
  | k + 1 => nth zs k
def ri1N (zs : List Int) (lim : Int) : Nat → Bool
  | 0 => true
  | k + 1 => ri1N zs lim k && decide (las1 zs k < nth zs k ∧ nth zs k < lim)
def ri1B (zs : List Int) (lim : Int) : Bool := ri1N zs lim zs.length
theorem ri1_last {zs : List Int} {lim : Int} : ∀ {k : Nat}, ri1N zs lim k = true → 0 ≤ las1 zs k ∧ (k = 0 ∨ (1 ≤ las1 zs k ∧ las1 zs k < lim))
  | 0, _ => ⟨Int.le_refl _, .inl rfl⟩
  | k + 1, h => by
    unfold ri1N at h
    simp only [Bool.and_eq_true, decide_eq_true_eq] at h
    obtain ⟨h1, h2, h3⟩ := h
    have := (ri1_last h1).1
    exact ⟨by show 0 ≤ nth zs k; omega, .inr ⟨by show 1 ≤ nth zs k; omega, h3⟩⟩
theorem ri1_yes {zs : List Int} {lim : Int} {k : Nat} (h : ri1N zs lim k = true) (h1 : las1 zs k < nth zs k) (h2 : nth zs k < lim) : ri1N zs lim (k + 1) = true := by
  unfold ri1N; rw [h, decide_eq_true ⟨h1, h2⟩]; rfl
theorem ri1_down {zs : List Int} {lim : Int} {k : Nat} : ∀ d, ri1N zs lim (k + d) = true → ri1N zs lim k = true
  | 0, h => h
  | d + 1, h => by
    have h' : ri1N zs lim (k + d + 1) = true := h
    unfold ri1N at h'
    simp only [Bool.and_eq_true] at h'
    exact ri1_down d h'.1
theorem ri1_no {zs : List Int} {lim : Int} {k : Nat} (hk : k < zs.length) (h : ¬ (las1 zs k < nth zs k ∧ nth zs k < lim)) : ri1B zs lim = false := by
  cases hb : ri1B zs lim with
  | false => rfl
  | true =>
    unfold ri1B at hb
    rw [show zs.length = k + 1 + (zs.length - (k + 1)) by omega] at hb
    have := ri1_down _ hb
    unfold ri1N at this
    simp only [Bool.and_eq_true, decide_eq_true_eq] at this
    exact absurd this.2 h
theorem ri1_end {zs : List Int} {lim : Int} {n : Nat} (hn : zs.length = n) (h : ri1N zs lim n = true) : ri1B zs lim = true := by unfold ri1B; rw [hn]; exact h
set_option maxRecDepth 100000 in
set_option maxHeartbeats 2000000 in
theorem rising1_ (A : Option Addr) (n c : Nat) (zs : List Int) (hi : Int) (w : World) (hn : zs.length = n) (hs : n ≤ 1048576) (hr : Rd w w.heap.size A (zs.map (Value.int .i64))) :
    Calls Tryd.prog 175 #[.slice A n c, .int .i64 1, .int .i64 hi] w (RetV (.bool (ri1B zs (hi + 1))) w) := by
  have HN := Lib.hid hn; clear hn
  obtain ⟨R, hR⟩ : ∃ r, ri1B zs (hi + 1) = r := ⟨_, rfl⟩
  rw [hR]
  have HR := Lib.hid hR; clear hR
  go_enter Tryd.func175, Tryd.ntmps175
  go_wp2
  go_loopw [7] (fun i wr => ∃ k : Nat, k ≤ n ∧ i = .int .i64 k ∧ Hid (ri1N zs (hi + 1) k = true) ∧ Below w.heap.size w wr) (fun i _ => n - (intOf i).toNat)
  case atStart => exact ⟨0, Nat.zero_le _, rfl, Lib.hid rfl, Below.refl _ _⟩
  case round =>
    obtain ⟨k, hk, rfl, HA, hb⟩ := hrel
    by_cases hlt : k < n
    case neg =>
      obtain rfl : k = n := by omega
      obtain rfl : R = true := HR.out.symm.trans (ri1_end HN.out HA.out)
      clear hlt
      go_wp2
      go_ret
      exact retB rfl hb
    case pos =>
    have hks : k < zs.length := by have := HN.out; omega
    have hrw := hr.over hb
    obtain ⟨ad, rfl, _, f0⟩ := hrw.got (k := k) (by simpa using hks)
    simp only [List.getElem_map] at f0
    rw [nth_eq hks] at f0
    obtain ⟨z, hz⟩ : ∃ z, nth zs k = z := ⟨_, rfl⟩
    rw [hz] at f0
    have HZ := Lib.hid hz
    have CI := Lib.hid (fun W => in_ z 1 hi W)
    cases hin : inB z 1 hi
    case false =>
      obtain rfl : R = false := HR.out.symm.trans (ri1_no hks (by
        have h1 := inB_false hin
        have h2 := (ri1_last HA.out).1
        rw [hz]; omega))
      rw [hin] at CI
      clear hz hin HA
      go_wp2
      go_quiet ((go_at_call 113; exact Calls.quiet_of_same ((CI.out _).mono fun e w' h => ⟨h.1, h.2.symm⟩)))
      go_wp2
      go_ret
      exact retB rfl (drewN_below_ hb _)
    case true =>
      rw [hin] at CI
      have HI := Lib.hid (inB_true hin)
      clear hin
      by_cases h0 : k = 0
      · subst h0
        have HS : Hid (ri1N zs (hi + 1) (0 + 1) = true) := Lib.hid (ri1_yes HA.out (by show 0 < nth zs 0; have := HI.out; omega) (by have := HI.out; omega))
        clear hz HA
        have ea : ad.add 0 = ad := by unfold Addr.add; simp
        rw [ea] at f0
        clear ea
        go_wp2
        go_quiet ((go_at_call 113; exact Calls.quiet_of_same ((CI.out _).mono fun e w' h => ⟨h.1, h.2.symm⟩)))
        go_wp2
        go_roundw
        case rel => exact ⟨0 + 1, by omega, rfl, HS, drewN_below_ hb _⟩
        case measure => simp [intOf]; omega
      · obtain ⟨m, hkm⟩ : ∃ m, k = m + 1 := ⟨k - 1, by omega⟩
        have hwr := pred_wrap_ k m hkm (by omega)
        have hms : m < zs.length := by omega
        have hmn : (m : Int) < n := by omega
        have hd0 : decide (0 < k) = true := decide_eq_true (by omega)
        obtain ⟨ad', e', _, f1⟩ := hrw.got (k := m) (by simpa using hms)
        obtain rfl : ad = ad' := by injection e'
        simp only [List.getElem_map] at f1
        rw [nth_eq hms] at f1
        obtain ⟨x, hx⟩ : ∃ x, nth zs m = x := ⟨_, rfl⟩
        rw [hx] at f1
        have HL : Hid (las1 zs k = x) := Lib.hid (by rw [hkm]; exact hx)
        clear hx hkm e'
        by_cases h1 : x < z
        · have HS : Hid (ri1N zs (hi + 1) (k + 1) = true) := Lib.hid (ri1_yes HA.out (by rw [HL.out, HZ.out]; exact h1) (by have := HI.out; rw [HZ.out]; omega))
          have d1 : decide (z ≤ x) = false := decide_eq_false (by omega)
          clear hz HA HL h0
          go_wp2
          go_quiet ((go_at_call 113; exact Calls.quiet_of_same ((CI.out _).mono fun e w' h => ⟨h.1, h.2.symm⟩)))
          clear hwr
          go_wp2
          go_roundw
          case rel => exact ⟨k + 1, by omega, by go_num, HS, drewN_below_ hb _⟩
          case measure => simp [intOf]; omega
        · obtain rfl : R = false := HR.out.symm.trans (ri1_no hks (by rw [HL.out, HZ.out]; omega))
          have h1' : z ≤ x := by omega
          clear hz HA HL h0 h1
          go_wp2
          go_quiet ((go_at_call 113; exact Calls.quiet_of_same ((CI.out _).mono fun e w' h => ⟨h.1, h.2.symm⟩)))
          clear hwr
          go_wp2
          go_ret
          exact retB rfl (drewN_below_ hb _)

def idxD (ds : List LtD) (x : Int) : Nat := (idxN ds x).getD 0
/-- the set of the first k lights that are named. -/
def mskK (ds : List LtD) (zs : List Int) : Nat → Nat
  | 0 => 0
  | k + 1 => mskK ds zs k ||| 2 ^ idxD ds (nth zs k)
theorem msk_lt {ds : List LtD} {zs : List Int} (hl : ds.length ≤ 12) : ∀ {k : Nat}, (∀ j, j < k → (idxN ds (nth zs j)).isSome = true) → mskK ds zs k < 2 ^ 12
  | 0, _ => by show (0 : Nat) < 2 ^ 12; decide
  | k + 1, h => by
    have ih := msk_lt hl (k := k) (fun j hj => h j (by omega))
    obtain ⟨i, hi⟩ := Option.isSome_iff_exists.1 (h k (by omega))
    have h2 := idx_lt hi
    unfold mskK
    refine Nat.or_lt_two_pow ih (Nat.pow_lt_pow_right (by decide) ?_)
    unfold idxD; rw [hi]; show i < 12; omega
def dwP (ss : List ByteArray) (fs : List Q4) (ds : List LtD) (zs : List Int) : Prop := planP ss fs ds ∧ ri1B zs 1000 = true ∧ ∀ k, k < zs.length → (idxN ds (nth zs k)).isSome = true
noncomputable def dwB (ss : List ByteArray) (fs : List Q4) (ds : List LtD) (zs : List Int) : Bool := pb (dwP ss fs ds zs)
noncomputable def dwV (ss : List ByteArray) (fs : List Q4) (ds : List LtD) (zs : List Int) : Int := if dwB ss fs ds zs then (mskK ds zs zs.length : Int) else 0
noncomputable def dwR (ss : List ByteArray) (fs : List Q4) (ds : List LtD) (zs : List Int) : Value := .tuple #[.int .i64 (dwV ss fs ds zs), .bool (dwB ss fs ds zs)]
theorem dw_no {ss : List ByteArray} {fs : List Q4} {ds : List LtD} {zs : List Int} (h : ¬ dwP ss fs ds zs) : (.tuple #[.int .i64 0, .bool false] : Value) = dwR ss fs ds zs := by
  unfold dwR dwV; rw [show dwB ss fs ds zs = false from pb_false h]; rfl
theorem dw_yes {ss : List ByteArray} {fs : List Q4} {ds : List LtD} {zs : List Int} (h : dwP ss fs ds zs) : (.tuple #[.int .i64 (mskK ds zs zs.length : Int), .bool true] : Value) = dwR ss fs ds zs := by
  unfold dwR dwV; rw [show dwB ss fs ds zs = true from pb_true h]; rfl
theorem idxI_some {ds : List LtD} {x : Int} (h : (idxN ds x).isSome = true) : idxI ds x = (idxD ds x : Int) := by
  obtain ⟨i, hi⟩ := Option.isSome_iff_exists.1 h
  unfold idxI idxD; rw [hi]; rfl
theorem idxI_none {ds : List LtD} {x : Int} (h : ¬ (idxN ds x).isSome = true) : idxI ds x = -1 := by
  have h2 : idxN ds x = none := by cases h3 : idxN ds x with
    | none => rfl
    | some i => rw [h3] at h; exact absurd rfl h
  unfold idxI; rw [h2]
theorem idxD_lt {ds : List LtD} {x : Int} (h : (idxN ds x).isSome = true) : idxD ds x < ds.length := by
  obtain ⟨i, hi⟩ := Option.isSome_iff_exists.1 h
  have := idx_lt hi
  unfold idxD; rw [hi]; exact this

end Go.Proofs.YtbnfogedmjjiaaaDoor
