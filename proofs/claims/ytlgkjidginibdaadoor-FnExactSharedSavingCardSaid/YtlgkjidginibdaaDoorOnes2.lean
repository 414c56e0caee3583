/- Contracts: math/bits.OnesCount64 and OnesCount at a mask of 24 slots. No condition but the mask's bound. -/
import Derived.Test.YtlgkjidginibdaaDoorOnes
namespace Go.Proofs.YtlgkjidginibdaaDoor
open Go.ChangeShapes Go.WideShapes Go.ChangeAt Go.RowKit

theorem and_u64 (a : Nat) (b : Nat) (x c : Int) (r : Nat) (hx : x = a) (hc : c = b) (ha : a < 18446744073709551616) (hb : b < 18446744073709551616) (h : a &&& b = r) : bits .and .u64 x c = (r : Int) := by
  rw [hx, hc, bits_and_u64_nat a b ha hb, h]
set_option maxHeartbeats 1000000 in
theorem ones64 (m : Nat) (w : World) (h : m ≤ 16777215) : Calls Tryd.prog 72 #[.int .u64 (m : Int)] w fun e w' => e = .returned (.int .i64 (popN m 24 : Int)) ∧ w = w' := by
  obtain ⟨a, b, c, d, e, s1, s2, s3, h1, h2, h3, h4, h5, h6, h7, h8, l1, l2, l3, l4, hr⟩ := ones_nat m (by omega)
  have k1 := and_u64 (m / 2) 6148914691236517205 ((m : Int) / 2) 6148914691236517205 a (by omega) rfl (by omega) (by decide) h1
  have k2 := and_u64 m 6148914691236517205 (m : Int) 6148914691236517205 b rfl rfl (by omega) (by decide) h2
  have k3 : IntKind.u64.wrap ((a : Int) + b) = s1 := by rw [IntKind.wrap_u64]; omega
  have k4 := and_u64 (s1 / 4) 3689348814741910323 ((s1 : Int) / 4) 3689348814741910323 c (by omega) rfl (by omega) (by decide) h4
  have k5 := and_u64 s1 3689348814741910323 (s1 : Int) 3689348814741910323 d rfl rfl (by omega) (by decide) h5
  have k6 : IntKind.u64.wrap ((c : Int) + d) = s2 := by rw [IntKind.wrap_u64]; omega
  have k7 : IntKind.u64.wrap ((s2 : Int) / 16 + s2) = e := by rw [IntKind.wrap_u64]; omega
  have k8 := and_u64 e 1085102592571150095 (e : Int) 1085102592571150095 s3 rfl rfl (by omega) (by decide) h8
  obtain ⟨t1, ht1⟩ : ∃ t1 : Nat, s3 + s3 / 256 = t1 := ⟨_, rfl⟩
  rw [ht1] at hr
  obtain ⟨t2, ht2⟩ : ∃ t2 : Nat, t1 + t1 / 65536 = t2 := ⟨_, rfl⟩
  rw [ht2] at hr
  obtain ⟨t3, ht3⟩ : ∃ t3 : Nat, t2 + t2 / 4294967296 = t3 := ⟨_, rfl⟩
  rw [ht3] at hr
  have k9 : IntKind.u64.wrap ((s3 : Int) + s3 / 256) = t1 := by rw [IntKind.wrap_u64]; omega
  have k10 : IntKind.u64.wrap ((t1 : Int) + t1 / 65536) = t2 := by rw [IntKind.wrap_u64]; omega
  have k11 : IntKind.u64.wrap ((t2 : Int) + t2 / 4294967296) = t3 := by rw [IntKind.wrap_u64]; omega
  have k12 : IntKind.i64.wrap (t3 : Int) = t3 := by rw [IntKind.wrap_i64]; omega
  have k13 : bits .and .i64 (t3 : Int) 127 = (popN m 24 : Int) := by
    rw [← hr]; exact and_i64q t3 127 (by omega) (by omega)
  obtain ⟨p, hp⟩ : ∃ p : Int, (popN m 24 : Int) = p := ⟨_, rfl⟩
  rw [hp] at k13 ⊢
  clear h1 h2 h3 h4 h5 h6 h7 h8 l1 l2 l3 l4 hr ht1 ht2 ht3 hp h
  go_enter Tryd.func72, Tryd.ntmps72
  go_wp2
  go_ret
  exact ⟨rfl, rfl⟩
theorem ones_ (m : Nat) (w : World) (h : m ≤ 16777215) : Calls Tryd.prog 47 #[.int .u64 (m : Int)] w fun e w' => e = .returned (.int .i64 (popN m 24 : Int)) ∧ w = w' := by
  have C := Lib.hid (ones64 m w h)
  have hw : IntKind.u64.wrap (m : Int) = (m : Int) := by rw [IntKind.wrap_u64]; omega
  clear h
  go_enter Tryd.func47, Tryd.ntmps47
  go_wp2_with fail
  refine C.out.mono ?_
  rintro e w' ⟨rfl, rfl⟩
  go_wp2
  go_ret
  exact ⟨rfl, rfl⟩
end Go.Proofs.YtlgkjidginibdaaDoor
