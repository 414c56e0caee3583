/- Outages: which are valid: contracts of IsValidOutage, both sides. No condition but those typed. -/
import Derived.Test.YtnbeomnlobfpfaaDoorGrpS
import Derived.Test.YtnbeomnlobfpfaaDoorGA
import Derived.Test.YtnbeomnlobfpfaaDoorCmp3
import Derived.Test.YtnbeomnlobfpfaaDoorRch
import Derived.Deep.DeepCutAuto
namespace Go.Proofs.YtnbeomnlobfpfaaDoor
open Go.ChangeShapes Go.WideShapes Go.ChangeAt Go.RowKit

def ouP (ss : List ByteArray) (fs : List Q4) (u : Int) (ds : List Int) : Prop := netP ss fs ∧ (2 ≤ u ∧ u ≤ 20) ∧ ds.length = (rgL fs).length ∧ ∀ k, k < ds.length → 0 ≤ nth ds k ∧ nth ds k ≤ u
noncomputable def ouB (ss : List ByteArray) (fs : List Q4) (u : Int) (ds : List Int) : Bool := pb (ouP ss fs u ds)
set_option maxRecDepth 100000 in
set_option maxHeartbeats 8000000 in
theorem implVO {g1 g2 n1 n2 c1 c2 : Nat} {ss : List ByteArray} {fs : List Q4} {w : World} (h : NetAt g1 g2 n1 n2 c1 c2 ss fs w) (u : Int) {A : Option Addr} {n c : Nat} {ds : List Int} (hn : ds.length = n) (hr : Rd w w.heap.size A (ds.map (Value.int .i64))) (hx : n ≤ 1048576) :
    Calls Tryd.prog 65 #[.agg #[.slice (some ⟨g1, 0, none⟩) n1 c1, .slice (some ⟨g2, 0, none⟩) n2 c2], .agg #[.int .i64 u, .slice A n c]] w (RetP (.bool (ouB ss fs u ds)) w) := by
  have HNT := Lib.hid h; have HN := Lib.hid hn; have HR := Lib.hid hr
  have HL2 := Lib.hid h.ln2
  clear h hn hr
  obtain ⟨R, hR⟩ : ∃ r, ouB ss fs u ds = r := ⟨_, rfl⟩
  have HNO : Hid (¬ ouP ss fs u ds → R = false) := Lib.hid (fun e => by rw [← hR]; exact pb_false e)
  have HYES : Hid (ouP ss fs u ds → R = true) := Lib.hid (fun e => by rw [← hR]; exact pb_true e)
  rw [hR]
  clear hR
  obtain ⟨RB, hRB⟩ : ∃ r, pb (netP ss fs) = r := ⟨_, rfl⟩
  have CGM : Hid (∀ W, Below w.heap.size w W → Calls Tryd.prog 39 #[.agg #[.slice (some ⟨g1, 0, none⟩) n1 c1, .slice (some ⟨g2, 0, none⟩) n2 c2]] W (IntsP (gmV ss fs) RB W)) := Lib.hid (fun W hb => by rw [← hRB]; exact groupMasks_ (HNT.out.moved hb))
  have HRB := Lib.hid hRB
  clear hRB
  go_enter Tryd.func65, Tryd.ntmps65
  go_wp2_with fail
  obtain ⟨W0, hW0⟩ : ∃ W0, (w.alloc (Obj.cells #[.slice (some ⟨g1, 0, none⟩) n1 c1, .slice (some ⟨g2, 0, none⟩) n2 c2] 32)).alloc (Obj.cells #[.int .i64 u, .slice A n c] 59) = W0 := ⟨_, rfl⟩
  have hb0 : Below w.heap.size w W0 := by rw [← hW0]; exact ((Below.refl _ _).alloc (Nat.le_refl _) _).alloc (by simp) _
  have k0 : W0.cell? ⟨w.heap.size, 0, none⟩ = some (.slice (some ⟨g1, 0, none⟩) n1 c1) := by rw [← hW0]; simp [go_sem]
  have k1 : W0.cell? ⟨w.heap.size, 1, none⟩ = some (.slice (some ⟨g2, 0, none⟩) n2 c2) := by rw [← hW0]; simp [go_sem]
  have k2 : W0.cell? ⟨w.heap.size + 1, 0, none⟩ = some (.int .i64 u) := by rw [← hW0]; simp [go_sem]
  have k3 : W0.cell? ⟨w.heap.size + 1, 1, none⟩ = some (.slice A n c) := by rw [← hW0]; simp [go_sem]
  have hz0 : w.heap.size + 1 < W0.heap.size := by rw [← hW0]; simp
  have HB0 := Lib.hid hb0; have HK0 := Lib.hid k0; have HK1 := Lib.hid k1; have HK2 := Lib.hid k2; have HK3 := Lib.hid k3; have HZ0 := Lib.hid hz0
  rw [hW0]
  clear hW0 hb0 k0 k1 k2 k3 hz0
  refine (CGM.out _ HB0.out).mono ?_
  rintro e w1 ⟨A0, N0, d0, rfl, HN0, ho0, hb1⟩
  have HB1 := Lib.hid (HB0.out.trans (hb1.mono HB0.out.size))
  have k0 := (hb1.cell (p := ⟨w.heap.size, 0, none⟩) (by show w.heap.size < _; have := HZ0.out; omega)).trans HK0.out
  have k1 := (hb1.cell (p := ⟨w.heap.size, 1, none⟩) (by show w.heap.size < _; have := HZ0.out; omega)).trans HK1.out
  have k2 := (hb1.cell (p := ⟨w.heap.size + 1, 0, none⟩) (by show w.heap.size + 1 < _; have := HZ0.out; omega)).trans HK2.out
  have k3 := (hb1.cell (p := ⟨w.heap.size + 1, 1, none⟩) (by show w.heap.size + 1 < _; have := HZ0.out; omega)).trans HK3.out
  have hg1 : w.heap.size + 1 < w1.heap.size := by have := HZ0.out; have := hb1.size; omega
  have HR1 := Lib.hid (HR.out.moved HB1.out)
  clear hb1 ho0
  cases RB
  case false =>
    have HE := Lib.hid (HNO.out (fun hp => by have h1 := HRB.out; rw [pb_true hp.1] at h1; cases h1))
    clear k0 k1 k2 k3 hg1
    go_wp2
    go_ret
    exact ⟨retb HE.out.symm, HB1.out⟩
  case true =>
  have hv := of_pb HRB.out
  have HV := Lib.hid hv
  rw [gmV_yes hv] at HN0
  have HNG : Hid (N0 = (rgL fs).length) := Lib.hid (by rw [HN0.out]; unfold gmL; rw [List.length_map])
  have hn0 : N0 ≤ 14 := by have := HNG.out; have := rgp_len fs; have := hv.2.1; omega
  clear hv
  by_cases hu1 : 2 ≤ u
  case neg =>
    have HE := Lib.hid (HNO.out (fun hp => hu1 hp.2.1.1))
    have hu1' : u < 2 := by omega
    clear hu1
    go_wp2
    go_ret
    exact ⟨retb HE.out.symm, HB1.out⟩
  case pos =>
  by_cases hu2 : u ≤ 20
  case neg =>
    have HE := Lib.hid (HNO.out (fun hp => hu2 hp.2.1.2))
    have hu2' : 20 < u := by omega
    clear hu2
    go_wp2
    go_ret
    exact ⟨retb HE.out.symm, HB1.out⟩
  case pos =>
  by_cases hne : n = N0
  case neg =>
    have HE := Lib.hid (HNO.out (fun hp => hne (by have h1 := hp.2.2.1; have := HN.out; have := HNG.out; omega)))
    have p1 : ((n : Int) != (N0 : Int)) = true := by simp; omega
    have p2 : (n != N0) = true := by simp; omega
    clear hne
    go_wp2
    go_ret
    exact ⟨retb HE.out.symm, HB1.out⟩
  case pos =>
  have HNE : Hid (n = (rgL fs).length) := Lib.hid (by rw [hne]; exact HNG.out)
  subst hne
  go_wp2
  go_loop [37] (fun i => ∃ k : Nat, k ≤ n ∧ i = .int .i64 k ∧ Hid (∀ j, j < k → 0 ≤ nth ds j ∧ nth ds j ≤ u)) (fun i => n - (intOf i).toNat)
  case atStart => exact ⟨0, Nat.zero_le _, rfl, Lib.hid (fun j hj => by omega)⟩
  case round =>
    obtain ⟨k, hk, rfl, HA⟩ := hrel
    by_cases hlt : k < n
    case neg =>
      have HE : Hid (R = true) := Lib.hid (HYES.out ⟨HV.out, ⟨hu1, hu2⟩, by rw [HN.out]; exact HNE.out, fun j hj => HA.out j (by have := HN.out; omega)⟩)
      go_wp2
      go_ret
      exact ⟨retb HE.out.symm, HB1.out⟩
    case pos =>
    have hks : k < ds.length := by have := HN.out; omega
    obtain ⟨ad, hA, hbl, hc⟩ := ints_at HR1.out hks
    subst hA
    rw [nth_eq hks] at hc
    have hkn : (k : Int) < n := by omega
    obtain ⟨d, hd⟩ : ∃ d, nth ds k = d := ⟨_, rfl⟩
    rw [hd] at hc
    have HD := Lib.hid hd
    clear hd
    by_cases hd0 : 0 ≤ d
    case neg =>
      have HE := Lib.hid (HNO.out (fun hp => hd0 (by have := (hp.2.2.2 k (by have := HN.out; omega)).1; rw [HD.out] at this; exact this)))
      have hd0' : d < 0 := by omega
      clear hd0
      go_wp2
      go_ret
      exact ⟨retb HE.out.symm, HB1.out⟩
    case pos =>
    by_cases hd1 : d ≤ u
    case neg =>
      have HE := Lib.hid (HNO.out (fun hp => hd1 (by have := (hp.2.2.2 k (by have := HN.out; omega)).2; rw [HD.out] at this; exact this)))
      have hd1' : u < d := by omega
      clear hd1
      go_wp2
      go_ret
      exact ⟨retb HE.out.symm, HB1.out⟩
    case pos =>
      have HA2 : Hid (∀ j, j < k + 1 → 0 ≤ nth ds j ∧ nth ds j ≤ u) := Lib.hid (fun j hj => by
        by_cases e : j = k
        · subst e; rw [HD.out]; exact ⟨hd0, hd1⟩
        · exact HA.out j (by omega))
      go_wp2
      go_round
      case rel => exact ⟨k + 1, by omega, by go_num, HA2⟩
      case measure => simp [intOf]; omega
end Go.Proofs.YtnbeomnlobfpfaaDoor
