/- Rings: fibers that are protected: the implementation's contracts. Condition: the table of math/bits holds what Go's text lays. -/
import Derived.Test.YtkpendpjdemknaaDoorPfS
import Derived.BigQuiet
import Derived.BigRegion
namespace Go.Proofs.YtkpendpjdemknaaDoor
open Go.ChangeShapes Go.WideShapes Go.ChangeAt Go.RowKit

theorem bit_dec {m i : Nat} (hm : m < 2 ^ 62) {b : Bool} (h : m.testBit i = b) : bits .and .i64 ((m : Int) / (2 : Int) ^ i) 1 = if b then 1 else 0 := by
  rw [bit_of m i hm, h]
set_option maxRecDepth 100000 in
set_option maxHeartbeats 8000000 in
theorem straddl_ {g1 g2 n1 n2 c1 c2 : Nat} {ss : List ByteArray} {fs : List Q4} {w : World} (h : NetAt g1 g2 n1 n2 c1 c2 ss fs w)
    {A : Option Addr} {n c : Nat} {fl : List Int} (hn : fl.length = n) (hr : Rd w w.heap.size A (fl.map (Value.int .i64))) (hx : n ≤ 1048576) (hcp : n ≤ c) (hi : irB ss fs fl = true) :
    Calls Tryd.prog 36 #[.agg #[.slice (some ⟨g1, 0, none⟩) n1 c1, .slice (some ⟨g2, 0, none⟩) n2 c2], .slice A n c] w (RetP (.int .i64 ((clM (setN (bothQ fs (rgnL ss fs fl)) n2) (maskN fl n) : Nat) : Int)) w) := by
  obtain ⟨hv, _, hfl, _, hnd⟩ := ring_facts hi
  have HNT := Lib.hid h; have HN := Lib.hid hn; have HR := Lib.hid hr
  have HL2 := Lib.hid h.ln2
  have HV := Lib.hid hv
  have hn14 : n2 ≤ 14 := by have := hv.2.1; have := h.ln2; omega
  have hs8 : ss.length ≤ 8 := hv.1.2
  have CN := Lib.hid (fun (W : World) (hb : Below w.heap.size w W) => implRgN (h.moved hb) hn (hr.moved hb) hx hcp)
  have CM := Lib.hid (fun (W : World) (hb : Below w.heap.size w W) => maskOf_ A n c fl W hn hx (hr.moved hb) (fun k hk => by
    have h9 := nth_of hfl k (by omega)
    have := h.ln2; omega))
  have hmf : maskN fl n < 2 ^ 20 := by
    rw [← hn]
    have h9 := own_bl (fl := fl) (N := fs.length) (by have := h.ln2; omega) hfl
    exact Nat.lt_of_lt_of_le h9.2 (Nat.pow_le_pow_right (by decide) (by have := h.ln2; omega))
  have HNU := Lib.hid (rgn_len ss fs fl)
  have HUB : Hid (∀ k, k < (rgnL ss fs fl).length → 0 ≤ nth (rgnL ss fs fl) k ∧ nth (rgnL ss fs fl) k < 20) := Lib.hid (fun k hk => by
    have := nth_of hnd k hk; omega)
  have HUM := Lib.hid (fun i => mask_mem (fl := rgnL ss fs fl) (fun x hx => (hnd x hx).1) i)
  obtain ⟨us, hus⟩ : ∃ u, rgnL ss fs fl = u := ⟨_, rfl⟩
  rw [hus] at CN HUB HUM HNU ⊢
  rw [hi] at CN
  have hml : maskN us us.length < 2 ^ 20 := maskL_lt HUB.out
  obtain ⟨mf, hmfe⟩ : ∃ m, maskN fl n = m := ⟨_, rfl⟩
  rw [hmfe] at CM hmf ⊢
  have hnd8 := Lib.hid hnd
  clear h hv hn hr hfl hnd hus hi hmfe
  go_enter Tryd.func36, Tryd.ntmps36
  go_wp2_with fail
  obtain ⟨W0, hW0⟩ : ∃ W0, w.alloc (Obj.cells #[.slice (some ⟨g1, 0, none⟩) n1 c1, .slice (some ⟨g2, 0, none⟩) n2 c2] 32) = W0 := ⟨_, rfl⟩
  have hb0 : Below w.heap.size w W0 := by rw [← hW0]; exact (Below.refl _ _).alloc (Nat.le_refl _) _
  have k0 : W0.cell? ⟨w.heap.size, 0, none⟩ = some (.slice (some ⟨g1, 0, none⟩) n1 c1) := by rw [← hW0]; simp [go_sem]
  have k1 : W0.cell? ⟨w.heap.size, 1, none⟩ = some (.slice (some ⟨g2, 0, none⟩) n2 c2) := by rw [← hW0]; simp [go_sem]
  have hz0 : w.heap.size < W0.heap.size := by rw [← hW0]; simp
  have HB0 := Lib.hid hb0
  have HK : Hid (∀ u, Below W0.heap.size W0 u → u.cell? ⟨w.heap.size, 0, none⟩ = some (.slice (some ⟨g1, 0, none⟩) n1 c1) ∧ u.cell? ⟨w.heap.size, 1, none⟩ = some (.slice (some ⟨g2, 0, none⟩) n2 c2) ∧ w.heap.size < u.heap.size) := Lib.hid fun u hu => ⟨(hu.cell (p := ⟨w.heap.size, 0, none⟩) hz0).trans k0, (hu.cell (p := ⟨w.heap.size, 1, none⟩) hz0).trans k1, Nat.lt_of_lt_of_le hz0 hu.size⟩
  rw [hW0]
  clear hW0 hb0 k0 k1 hz0
  refine (CN.out _ HB0.out).mono ?_
  rintro e w1 ⟨A0, N, cc, rfl, HNN, ho, hb1⟩
  have hN20 : N ≤ 1048576 := by have := HNN.out; have := HNU.out; have := HN.out; omega
  have CV := Lib.hid (maskOf_ A0 N cc us w1 HNN.out.symm hN20 (Rd.ofOwn ho) (by rw [HNN.out]; exact HUB.out))
  obtain ⟨vm, hvm⟩ : ∃ m, maskN us N = m := ⟨_, rfl⟩
  rw [hvm] at CV
  have HVM : Hid (∀ i : Nat, vm.testBit i = decide ((i : Int) ∈ us)) := Lib.hid (fun i => by rw [← hvm, HNN.out]; exact HUM.out i)
  have hvml : vm < 2 ^ 20 := by rw [← hvm, HNN.out]; exact hml
  have HB1 := Lib.hid hb1
  clear hvm ho hb1 hml
  go_wp2_with fail
  refine CV.out.mono ?_
  rintro e w' ⟨rfl, rfl⟩
  obtain ⟨q0, q1, q2⟩ := HK.out w1 HB1.out
  go_wp2
  clear q0 q1 q2
  go_loopw [8, 22] (fun v i wr => ∃ (k m : Nat), k ≤ n2 ∧ i = .int .i64 k ∧ v = .int .i64 m ∧ Hid (setN (bothQ fs us) k = m ∧ m < 2 ^ 20) ∧ Below W0.heap.size W0 wr) (fun _ i _ => n2 - (intOf i).toNat)
  case atStart => exact ⟨0, 0, Nat.zero_le _, rfl, rfl, Lib.hid ⟨rfl, by decide⟩, HB1.out⟩
  case round =>
    obtain ⟨k, m, hk, rfl, rfl, HA, hb⟩ := hrel
    have HBR := Lib.hid hb
    have HBW := Lib.hid (HB0.out.trans (hb.mono HB0.out.size))
    clear hb
    by_cases hlt : k < n2
    case neg =>
      obtain rfl : k = n2 := by omega
      have CF := Lib.hid (CM.out wr HBW.out)
      have HAN : Hid (bits .andNot .i64 (m : Int) (mf : Int) = ((clM (setN (bothQ fs us) k) mf : Nat) : Int)) := Lib.hid (by
        rw [HA.out.1]
        exact clM_i64 m mf (Nat.lt_of_lt_of_le HA.out.2 (Nat.pow_le_pow_right (by decide) (by decide))) (Nat.lt_of_lt_of_le hmf (Nat.pow_le_pow_right (by decide) (by decide))))
      clear hlt
      go_wp2_with fail
      refine CF.out.mono ?_
      rintro e w' ⟨rfl, rfl⟩
      go_wp2
      go_ret
      exact retP (by rw [HAN.out]; rfl) HBW.out
    case pos =>
    have hkl : k < fs.length := by have := HL2.out; omega
    obtain ⟨⟨qa, qb, qc, qd⟩, hq⟩ : ∃ q, fs[k]'hkl = q := ⟨_, rfl⟩
    have hf := (HV.out.2.2.2 k hkl hkl).1
    unfold fibP at hf
    rw [hq] at hf
    simp only at hf
    obtain ⟨a, rfl⟩ : ∃ a : Nat, qa = (a : Int) := ⟨qa.toNat, by omega⟩
    obtain ⟨b, rfl⟩ : ∃ b : Nat, qb = (b : Int) := ⟨qb.toNat, by omega⟩
    have ha8 : a < 8 := by omega
    have hb8 : b < 8 := by omega
    have hrd := (HNT.out.moved HBW.out).rd2.q4c hkl
    rw [Nat.zero_add, hq] at hrd
    obtain ⟨hg2, r0, r1, r2, r3⟩ := hrd
    simp only at r0 r1 r2 r3
    have HQF : fibI fs (k : Int) = ⟨(a : Int), (b : Int), qc, qd⟩ := (fib_at hkl).trans hq
    have HBQ : Hid (bothQ fs us k = (vm.testBit a && vm.testBit b)) := Lib.hid (by unfold bothQ; rw [HQF, HVM.out, HVM.out])
    have h62 : vm < 2 ^ 62 := Nat.lt_of_lt_of_le hvml (Nat.pow_le_pow_right (by decide) (by decide))
    have hp : 2 ^ k < 2 ^ 20 := Nat.pow_lt_pow_right (by decide) (by omega)
    have HX : Hid (bits .or .i64 (m : Int) ((2 : Int) ^ k) = ((m ||| 2 ^ k : Nat) : Int)) := Lib.hid (by
      have := or_i64_ m (2 ^ k) (by have := HA.out.2; omega) (by omega)
      rw [show ((2 ^ k : Nat) : Int) = (2 : Int) ^ k by simp] at this
      exact this)
    have hw1 : (2 : Int) ^ k ≤ 1048575 := by
      have : ((2 ^ k : Nat) : Int) ≤ 1048575 := by omega
      simpa using this
    have hw0 : 0 ≤ (2 : Int) ^ k := Int.pow_nonneg (by omega)
    have hkI : (k : Int) < (n2 : Int) := by omega
    have HB2 := Lib.hid (HBR.out.alloc HBR.out.size (Obj.cells #[.int .i64 (a : Int), .int .i64 (b : Int), .int .i64 qc, .int .i64 qd] 91))
    obtain ⟨ba, hba⟩ : ∃ b9, vm.testBit a = b9 := ⟨_, rfl⟩
    obtain ⟨bb, hbb⟩ : ∃ b9, vm.testBit b = b9 := ⟨_, rfl⟩
    have t1 := bit_dec h62 hba
    have t2 := bit_dec h62 hbb
    rw [hba, hbb] at HBQ
    clear hf hq HQF hp hba hbb h62 hlt hkl
    cases ba
    case false =>
      have HS : Hid (setN (bothQ fs us) (k + 1) = m ∧ m < 2 ^ 20) := Lib.hid ⟨by rw [setN_out HBQ.out]; exact HA.out.1, HA.out.2⟩
      rw [if_neg (by decide)] at t1
      clear t2 HA
      go_wp2
      go_roundw
      case rel => exact ⟨k + 1, m, by omega, by go_num, rfl, HS, HB2.out⟩
      case measure => simp [intOf]; omega
    case true =>
    rw [if_pos rfl] at t1
    cases bb
    case false =>
      have HS : Hid (setN (bothQ fs us) (k + 1) = m ∧ m < 2 ^ 20) := Lib.hid ⟨by rw [setN_out HBQ.out]; exact HA.out.1, HA.out.2⟩
      rw [if_neg (by decide)] at t2
      clear HA
      go_wp2
      go_roundw
      case rel => exact ⟨k + 1, m, by omega, by go_num, rfl, HS, HB2.out⟩
      case measure => simp [intOf]; omega
    case true =>
      have HS : Hid (setN (bothQ fs us) (k + 1) = m ||| 2 ^ k ∧ m ||| 2 ^ k < 2 ^ 20) := Lib.hid ⟨by rw [setN_in HBQ.out, HA.out.1], Nat.or_lt_two_pow HA.out.2 (Nat.pow_lt_pow_right (by decide) (by omega))⟩
      rw [if_pos rfl] at t2
      clear HA
      go_wp2
      go_roundw
      case rel => exact ⟨k + 1, m ||| 2 ^ k, by omega, by go_num, congrArg _ HX.out, HS, HB2.out⟩
      case measure => simp [intOf]; omega
end Go.Proofs.YtkpendpjdemknaaDoor
