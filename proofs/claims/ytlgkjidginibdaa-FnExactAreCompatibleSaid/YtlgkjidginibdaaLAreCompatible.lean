/- Proved: at every argument impl.AreCompatible answers as spec.AreCompatible does and leaves its arguments alone (the law FnExactAreCompatible returns true). No condition. -/
import Derived.Test.YtlgkjidginibdaaRows
import Derived.Test.YtlgkjidginibdaaJn
import Derived.JoinedOf
import Derived.Test.YtlgkjidginibdaaGC
import Derived.Test.YtlgkjidginibdaaScX
import Derived.Test.YtlgkjidginibdaaGA
import Derived.WalkKit
import Derived.ProofKit
import Derived.OpenShut
import Derived.ShutString
import Derived.SizedLaws
import Derived.Carry
namespace Go.Proofs.Ytlgkjidginibdaa.fnExactAreCompatible
open Go.ChangeShapes Go.WideShapes Go.ChangeAt Go.RowKit
open Go.ChangeMaps (open_string shut_string)

set_option maxRecDepth 100000 in
set_option maxHeartbeats 8000000 in
theorem walk (A1 : Option Addr) (n1 c1 : Nat) (ss : List ByteArray) (A2 : Option Addr) (n2 c2 : Nat) (fs : List Q4) (iia kka saa : Int) (Aa1 : Option Addr) (na1 ca1 : Nat) (a1 : List Int) (xaa yaa sba : Int) (Aa2 : Option Addr) (na2 ca2 : Nat) (a2 : List Int) (xba yba : Int) (iib kkb sab : Int) (Ab1 : Option Addr) (nb1 cb1 : Nat) (b1 : List Int) (xab yab sbb : Int) (Ab2 : Option Addr) (nb2 cb2 : Nat) (b2 : List Int) (xbb ybb : Int) (w : World) (hn1 : ss.length = n1) (hm1 : n1 ≤ maxLen) (hr1 : Rd w w.heap.size A1 (ss.map Value.string)) (hws : ∀ s ∈ ss, s.size ≤ maxLen) (hn2 : fs.length = n2) (hm2 : n2 ≤ maxLen) (hr2 : Rd w w.heap.size A2 (fs.flatMap Q4.cells)) (_hwf : ∀ q ∈ fs, q.wf) (hna1 : a1.length = na1) (hma1 : na1 ≤ maxLen) (hra1 : Rd w w.heap.size Aa1 (a1.map (Value.int .i64))) (hna2 : a2.length = na2) (hma2 : na2 ≤ maxLen) (hra2 : Rd w w.heap.size Aa2 (a2.map (Value.int .i64))) (hnb1 : b1.length = nb1) (hmb1 : nb1 ≤ maxLen) (hrb1 : Rd w w.heap.size Ab1 (b1.map (Value.int .i64))) (hnb2 : b2.length = nb2) (hmb2 : nb2 ≤ maxLen) (hrb2 : Rd w w.heap.size Ab2 (b2.map (Value.int .i64))) :
    Calls Try.prog 3 #[.agg #[.slice A1 n1 c1, .slice A2 n2 c2], .agg #[.int .i64 iia, .int .i64 kka, .int .i64 saa, .slice Aa1 na1 ca1, .int .i64 xaa, .int .i64 yaa, .int .i64 sba, .slice Aa2 na2 ca2, .int .i64 xba, .int .i64 yba], .agg #[.int .i64 iib, .int .i64 kkb, .int .i64 sab, .slice Ab1 nb1 cb1, .int .i64 xab, .int .i64 yab, .int .i64 sbb, .slice Ab2 nb2 cb2, .int .i64 xbb, .int .i64 ybb]] w fun e w' => e = .returned (.bool true) ∧ Below w.heap.size w w' := by
  have HN1 := Lib.hid hn1; have HN2 := Lib.hid hn2; have HWS := Lib.hid hws; clear hn1 hn2 hws _hwf
  have HNa1 := Lib.hid hna1; clear hna1; have HNa2 := Lib.hid hna2; clear hna2
  have HNb1 := Lib.hid hnb1; clear hnb1; have HNb2 := Lib.hid hnb2; clear hnb2
  obtain ⟨r1, hr1e⟩ : ∃ r, acV ss fs ⟨iia, kka, saa, a1, xaa, yaa, sba, a2, xba, yba⟩ ⟨iib, kkb, sab, b1, xab, yab, sbb, b2, xbb, ybb⟩ = r := ⟨_, rfl⟩
  obtain ⟨r2, hr2e⟩ : ∃ r, acB ss fs ⟨iia, kka, saa, a1, xaa, yaa, sba, a2, xba, yba⟩ ⟨iib, kkb, sab, b1, xab, yab, sbb, b2, xbb, ybb⟩ = r := ⟨_, rfl⟩
  have HRV : Hid (acR ss fs ⟨iia, kka, saa, a1, xaa, yaa, sba, a2, xba, yba⟩ ⟨iib, kkb, sab, b1, xab, yab, sbb, b2, xbb, ybb⟩ = .tuple #[.bool r1, .bool r2]) := Lib.hid (by unfold acR; rw [hr1e, hr2e])
  clear hr1e hr2e
  go_enter Try.func3, Try.ntmps3
  go_wp2_with fail
  obtain ⟨W, hW⟩ : ∃ W, (((w.alloc (Obj.cells #[.slice A1 n1 c1, .slice A2 n2 c2] 25)).alloc (Obj.cells #[.int .i64 iia, .int .i64 kka, .int .i64 saa, .slice Aa1 na1 ca1, .int .i64 xaa, .int .i64 yaa, .int .i64 sba, .slice Aa2 na2 ca2, .int .i64 xba, .int .i64 yba] 32)).alloc (Obj.cells #[.int .i64 iib, .int .i64 kkb, .int .i64 sab, .slice Ab1 nb1 cb1, .int .i64 xab, .int .i64 yab, .int .i64 sbb, .slice Ab2 nb2 cb2, .int .i64 xbb, .int .i64 ybb] 32)) = W := ⟨_, rfl⟩
  have hk0_0 : W.cell? ⟨w.heap.size, 0, none⟩ = some (.slice A1 n1 c1) := by rw [← hW]; simp [go_sem]
  have hk0_1 : W.cell? ⟨w.heap.size, 1, none⟩ = some (.slice A2 n2 c2) := by rw [← hW]; simp [go_sem]
  have hk1_0 : W.cell? ⟨w.heap.size + 1, 0, none⟩ = some (.int .i64 iia) := by rw [← hW]; simp [go_sem]
  have hk1_1 : W.cell? ⟨w.heap.size + 1, 1, none⟩ = some (.int .i64 kka) := by rw [← hW]; simp [go_sem]
  have hk1_2 : W.cell? ⟨w.heap.size + 1, 2, none⟩ = some (.int .i64 saa) := by rw [← hW]; simp [go_sem]
  have hk1_3 : W.cell? ⟨w.heap.size + 1, 3, none⟩ = some (.slice Aa1 na1 ca1) := by rw [← hW]; simp [go_sem]
  have hk1_4 : W.cell? ⟨w.heap.size + 1, 4, none⟩ = some (.int .i64 xaa) := by rw [← hW]; simp [go_sem]
  have hk1_5 : W.cell? ⟨w.heap.size + 1, 5, none⟩ = some (.int .i64 yaa) := by rw [← hW]; simp [go_sem]
  have hk1_6 : W.cell? ⟨w.heap.size + 1, 6, none⟩ = some (.int .i64 sba) := by rw [← hW]; simp [go_sem]
  have hk1_7 : W.cell? ⟨w.heap.size + 1, 7, none⟩ = some (.slice Aa2 na2 ca2) := by rw [← hW]; simp [go_sem]
  have hk1_8 : W.cell? ⟨w.heap.size + 1, 8, none⟩ = some (.int .i64 xba) := by rw [← hW]; simp [go_sem]
  have hk1_9 : W.cell? ⟨w.heap.size + 1, 9, none⟩ = some (.int .i64 yba) := by rw [← hW]; simp [go_sem]
  have hk2_0 : W.cell? ⟨w.heap.size + 1 + 1, 0, none⟩ = some (.int .i64 iib) := by rw [← hW]; simp [go_sem]
  have hk2_1 : W.cell? ⟨w.heap.size + 1 + 1, 1, none⟩ = some (.int .i64 kkb) := by rw [← hW]; simp [go_sem]
  have hk2_2 : W.cell? ⟨w.heap.size + 1 + 1, 2, none⟩ = some (.int .i64 sab) := by rw [← hW]; simp [go_sem]
  have hk2_3 : W.cell? ⟨w.heap.size + 1 + 1, 3, none⟩ = some (.slice Ab1 nb1 cb1) := by rw [← hW]; simp [go_sem]
  have hk2_4 : W.cell? ⟨w.heap.size + 1 + 1, 4, none⟩ = some (.int .i64 xab) := by rw [← hW]; simp [go_sem]
  have hk2_5 : W.cell? ⟨w.heap.size + 1 + 1, 5, none⟩ = some (.int .i64 yab) := by rw [← hW]; simp [go_sem]
  have hk2_6 : W.cell? ⟨w.heap.size + 1 + 1, 6, none⟩ = some (.int .i64 sbb) := by rw [← hW]; simp [go_sem]
  have hk2_7 : W.cell? ⟨w.heap.size + 1 + 1, 7, none⟩ = some (.slice Ab2 nb2 cb2) := by rw [← hW]; simp [go_sem]
  have hk2_8 : W.cell? ⟨w.heap.size + 1 + 1, 8, none⟩ = some (.int .i64 xbb) := by rw [← hW]; simp [go_sem]
  have hk2_9 : W.cell? ⟨w.heap.size + 1 + 1, 9, none⟩ = some (.int .i64 ybb) := by rw [← hW]; simp [go_sem]
  have hz : w.heap.size + 1 + 1 < W.heap.size := by rw [← hW]; simp
  have hbw : Below w.heap.size w W := by rw [← hW]; exact ((((Below.refl w.heap.size w).alloc (Nat.le_refl _) _).alloc (by simp) _).alloc (by simp; omega) _)
  have HBW := Lib.hid hbw
  rw [hW]
  clear hW
  have HR1 : Hid (∀ V, Below W.heap.size W V → Rd V V.heap.size A1 (ss.map Value.string)) := Lib.hid fun V hV => (hr1.moved hbw).moved hV
  clear hr1
  have HR2 : Hid (∀ V, Below W.heap.size W V → Rd V V.heap.size A2 (fs.flatMap Q4.cells)) := Lib.hid fun V hV => (hr2.moved hbw).moved hV
  clear hr2
  have HK0_0 : Hid (∀ V, Below W.heap.size W V → V.cell? ⟨w.heap.size, 0, none⟩ = some (.slice A1 n1 c1)) := Lib.hid fun V hV => (hV.cell (p := ⟨_, _, none⟩) (by show w.heap.size < _; omega)).trans hk0_0
  have HK0_1 : Hid (∀ V, Below W.heap.size W V → V.cell? ⟨w.heap.size, 1, none⟩ = some (.slice A2 n2 c2)) := Lib.hid fun V hV => (hV.cell (p := ⟨_, _, none⟩) (by show w.heap.size < _; omega)).trans hk0_1
  have HRa1 : Hid (∀ V, Below W.heap.size W V → Rd V V.heap.size Aa1 (a1.map (Value.int .i64))) := Lib.hid fun V hV => (hra1.moved hbw).moved hV
  clear hra1
  have HRa2 : Hid (∀ V, Below W.heap.size W V → Rd V V.heap.size Aa2 (a2.map (Value.int .i64))) := Lib.hid fun V hV => (hra2.moved hbw).moved hV
  clear hra2
  have HK1_0 : Hid (∀ V, Below W.heap.size W V → V.cell? ⟨w.heap.size + 1, 0, none⟩ = some (.int .i64 iia)) := Lib.hid fun V hV => (hV.cell (p := ⟨_, _, none⟩) (by show w.heap.size + 1 < _; omega)).trans hk1_0
  have HK1_1 : Hid (∀ V, Below W.heap.size W V → V.cell? ⟨w.heap.size + 1, 1, none⟩ = some (.int .i64 kka)) := Lib.hid fun V hV => (hV.cell (p := ⟨_, _, none⟩) (by show w.heap.size + 1 < _; omega)).trans hk1_1
  have HK1_2 : Hid (∀ V, Below W.heap.size W V → V.cell? ⟨w.heap.size + 1, 2, none⟩ = some (.int .i64 saa)) := Lib.hid fun V hV => (hV.cell (p := ⟨_, _, none⟩) (by show w.heap.size + 1 < _; omega)).trans hk1_2
  have HK1_3 : Hid (∀ V, Below W.heap.size W V → V.cell? ⟨w.heap.size + 1, 3, none⟩ = some (.slice Aa1 na1 ca1)) := Lib.hid fun V hV => (hV.cell (p := ⟨_, _, none⟩) (by show w.heap.size + 1 < _; omega)).trans hk1_3
  have HK1_4 : Hid (∀ V, Below W.heap.size W V → V.cell? ⟨w.heap.size + 1, 4, none⟩ = some (.int .i64 xaa)) := Lib.hid fun V hV => (hV.cell (p := ⟨_, _, none⟩) (by show w.heap.size + 1 < _; omega)).trans hk1_4
  have HK1_5 : Hid (∀ V, Below W.heap.size W V → V.cell? ⟨w.heap.size + 1, 5, none⟩ = some (.int .i64 yaa)) := Lib.hid fun V hV => (hV.cell (p := ⟨_, _, none⟩) (by show w.heap.size + 1 < _; omega)).trans hk1_5
  have HK1_6 : Hid (∀ V, Below W.heap.size W V → V.cell? ⟨w.heap.size + 1, 6, none⟩ = some (.int .i64 sba)) := Lib.hid fun V hV => (hV.cell (p := ⟨_, _, none⟩) (by show w.heap.size + 1 < _; omega)).trans hk1_6
  have HK1_7 : Hid (∀ V, Below W.heap.size W V → V.cell? ⟨w.heap.size + 1, 7, none⟩ = some (.slice Aa2 na2 ca2)) := Lib.hid fun V hV => (hV.cell (p := ⟨_, _, none⟩) (by show w.heap.size + 1 < _; omega)).trans hk1_7
  have HK1_8 : Hid (∀ V, Below W.heap.size W V → V.cell? ⟨w.heap.size + 1, 8, none⟩ = some (.int .i64 xba)) := Lib.hid fun V hV => (hV.cell (p := ⟨_, _, none⟩) (by show w.heap.size + 1 < _; omega)).trans hk1_8
  have HK1_9 : Hid (∀ V, Below W.heap.size W V → V.cell? ⟨w.heap.size + 1, 9, none⟩ = some (.int .i64 yba)) := Lib.hid fun V hV => (hV.cell (p := ⟨_, _, none⟩) (by show w.heap.size + 1 < _; omega)).trans hk1_9
  have HRb1 : Hid (∀ V, Below W.heap.size W V → Rd V V.heap.size Ab1 (b1.map (Value.int .i64))) := Lib.hid fun V hV => (hrb1.moved hbw).moved hV
  clear hrb1
  have HRb2 : Hid (∀ V, Below W.heap.size W V → Rd V V.heap.size Ab2 (b2.map (Value.int .i64))) := Lib.hid fun V hV => (hrb2.moved hbw).moved hV
  clear hrb2
  have HK2_0 : Hid (∀ V, Below W.heap.size W V → V.cell? ⟨w.heap.size + 1 + 1, 0, none⟩ = some (.int .i64 iib)) := Lib.hid fun V hV => (hV.cell (p := ⟨_, _, none⟩) (by show w.heap.size + 1 + 1 < _; omega)).trans hk2_0
  have HK2_1 : Hid (∀ V, Below W.heap.size W V → V.cell? ⟨w.heap.size + 1 + 1, 1, none⟩ = some (.int .i64 kkb)) := Lib.hid fun V hV => (hV.cell (p := ⟨_, _, none⟩) (by show w.heap.size + 1 + 1 < _; omega)).trans hk2_1
  have HK2_2 : Hid (∀ V, Below W.heap.size W V → V.cell? ⟨w.heap.size + 1 + 1, 2, none⟩ = some (.int .i64 sab)) := Lib.hid fun V hV => (hV.cell (p := ⟨_, _, none⟩) (by show w.heap.size + 1 + 1 < _; omega)).trans hk2_2
  have HK2_3 : Hid (∀ V, Below W.heap.size W V → V.cell? ⟨w.heap.size + 1 + 1, 3, none⟩ = some (.slice Ab1 nb1 cb1)) := Lib.hid fun V hV => (hV.cell (p := ⟨_, _, none⟩) (by show w.heap.size + 1 + 1 < _; omega)).trans hk2_3
  have HK2_4 : Hid (∀ V, Below W.heap.size W V → V.cell? ⟨w.heap.size + 1 + 1, 4, none⟩ = some (.int .i64 xab)) := Lib.hid fun V hV => (hV.cell (p := ⟨_, _, none⟩) (by show w.heap.size + 1 + 1 < _; omega)).trans hk2_4
  have HK2_5 : Hid (∀ V, Below W.heap.size W V → V.cell? ⟨w.heap.size + 1 + 1, 5, none⟩ = some (.int .i64 yab)) := Lib.hid fun V hV => (hV.cell (p := ⟨_, _, none⟩) (by show w.heap.size + 1 + 1 < _; omega)).trans hk2_5
  have HK2_6 : Hid (∀ V, Below W.heap.size W V → V.cell? ⟨w.heap.size + 1 + 1, 6, none⟩ = some (.int .i64 sbb)) := Lib.hid fun V hV => (hV.cell (p := ⟨_, _, none⟩) (by show w.heap.size + 1 + 1 < _; omega)).trans hk2_6
  have HK2_7 : Hid (∀ V, Below W.heap.size W V → V.cell? ⟨w.heap.size + 1 + 1, 7, none⟩ = some (.slice Ab2 nb2 cb2)) := Lib.hid fun V hV => (hV.cell (p := ⟨_, _, none⟩) (by show w.heap.size + 1 + 1 < _; omega)).trans hk2_7
  have HK2_8 : Hid (∀ V, Below W.heap.size W V → V.cell? ⟨w.heap.size + 1 + 1, 8, none⟩ = some (.int .i64 xbb)) := Lib.hid fun V hV => (hV.cell (p := ⟨_, _, none⟩) (by show w.heap.size + 1 + 1 < _; omega)).trans hk2_8
  have HK2_9 : Hid (∀ V, Below W.heap.size W V → V.cell? ⟨w.heap.size + 1 + 1, 9, none⟩ = some (.int .i64 ybb)) := Lib.hid fun V hV => (hV.cell (p := ⟨_, _, none⟩) (by show w.heap.size + 1 + 1 < _; omega)).trans hk2_9
  clear hk0_0 hk0_1
  clear hk1_0 hk1_1 hk1_2 hk1_3 hk1_4 hk1_5 hk1_6 hk1_7 hk1_8 hk1_9
  clear hk2_0 hk2_1 hk2_2 hk2_3 hk2_4 hk2_5 hk2_6 hk2_7 hk2_8 hk2_9
  have HZ := Lib.hid hz
  clear hz hbw
  have B0 := Lib.hid (Below.refl W.heap.size W)
  refine (szNet A1 A2 n1 c1 n2 c2 1048576 ss fs W HN1.out hm1 (HR1.out _ B0.out) HWS.out hm2 (by omega) (by omega)).mono ?_
  rintro e w1 ⟨v0, rfl, hb1, hv00, hv10, hv20⟩
  have B1_W := Lib.hid (B0.out.trans (hb1.mono B0.out.size))
  have HLAST1 := Lib.hid hb1
  clear hb1
  by_cases hneg0 : v0 < 0
  · go_wp2
    go_ret
    exact ⟨rfl, HBW.out.trans (B1_W.out.mono HBW.out.size)⟩
  have hp0 : 0 ≤ v0 := by omega
  have hsm1 : n1 ≤ 1048576 := by have := hv20 hp0; omega
  have hsm2 : n2 ≤ 1048576 := by have := hv20 hp0; omega
  have HSZ0 := Lib.hid (hv20 hp0)
  clear hneg0 hv20 hm1 hm2
  have ka1_0 := HK1_0.out _ B1_W.out
  have ka1_1 := HK1_1.out _ B1_W.out
  have ka1_2 := HK1_2.out _ B1_W.out
  have ka1_3 := HK1_3.out _ B1_W.out
  have ka1_4 := HK1_4.out _ B1_W.out
  have ka1_5 := HK1_5.out _ B1_W.out
  have ka1_6 := HK1_6.out _ B1_W.out
  have ka1_7 := HK1_7.out _ B1_W.out
  have ka1_8 := HK1_8.out _ B1_W.out
  have ka1_9 := HK1_9.out _ B1_W.out
  go_wp2_with fail
  clear ka1_0 ka1_1 ka1_2 ka1_3 ka1_4 ka1_5 ka1_6 ka1_7 ka1_8 ka1_9
  refine (szSv _ _ _ _ _ _ _ _ Aa1 na1 ca1 Aa2 na2 ca2 v0 w1 hma1 hma2 (by omega) (by omega)).mono ?_
  rintro e w2 ⟨v1, rfl, hb2, hv01, hv11, hv21⟩
  have B2_W := Lib.hid (B1_W.out.trans (hb2.mono B1_W.out.size))
  have HLAST2 := Lib.hid hb2
  clear hb2
  by_cases hneg1 : v1 < 0
  · go_wp2
    go_ret
    exact ⟨rfl, HBW.out.trans (B2_W.out.mono HBW.out.size)⟩
  have hp1 : 0 ≤ v1 := by omega
  have hsma1 : na1 ≤ 1048576 := by have := hv21 hp1; omega
  have hsma2 : na2 ≤ 1048576 := by have := hv21 hp1; omega
  have HSZ1 := Lib.hid (hv21 hp1)
  clear hneg1 hv21 hma1 hma2
  have ka2_0 := HK2_0.out _ B2_W.out
  have ka2_1 := HK2_1.out _ B2_W.out
  have ka2_2 := HK2_2.out _ B2_W.out
  have ka2_3 := HK2_3.out _ B2_W.out
  have ka2_4 := HK2_4.out _ B2_W.out
  have ka2_5 := HK2_5.out _ B2_W.out
  have ka2_6 := HK2_6.out _ B2_W.out
  have ka2_7 := HK2_7.out _ B2_W.out
  have ka2_8 := HK2_8.out _ B2_W.out
  have ka2_9 := HK2_9.out _ B2_W.out
  go_wp2_with fail
  clear ka2_0 ka2_1 ka2_2 ka2_3 ka2_4 ka2_5 ka2_6 ka2_7 ka2_8 ka2_9
  refine (szSv _ _ _ _ _ _ _ _ Ab1 nb1 cb1 Ab2 nb2 cb2 v1 w2 hmb1 hmb2 (by omega) (by omega)).mono ?_
  rintro e w3 ⟨v2, rfl, hb3, hv02, hv12, hv22⟩
  have B3_W := Lib.hid (B2_W.out.trans (hb3.mono B2_W.out.size))
  have HLAST3 := Lib.hid hb3
  clear hb3
  by_cases hneg2 : v2 < 0
  · go_wp2
    go_ret
    exact ⟨rfl, HBW.out.trans (B3_W.out.mono HBW.out.size)⟩
  have hp2 : 0 ≤ v2 := by omega
  have hsmb1 : nb1 ≤ 1048576 := by have := hv22 hp2; omega
  have hsmb2 : nb2 ≤ 1048576 := by have := hv22 hp2; omega
  have HSZ2 := Lib.hid (hv22 hp2)
  clear hneg2 hv22 hmb1 hmb2
  have ka0_0 := HK0_0.out _ B3_W.out
  have ka0_1 := HK0_1.out _ B3_W.out
  have ka1_0 := HK1_0.out _ B3_W.out
  have ka1_1 := HK1_1.out _ B3_W.out
  have ka1_2 := HK1_2.out _ B3_W.out
  have ka1_3 := HK1_3.out _ B3_W.out
  have ka1_4 := HK1_4.out _ B3_W.out
  have ka1_5 := HK1_5.out _ B3_W.out
  have ka1_6 := HK1_6.out _ B3_W.out
  have ka1_7 := HK1_7.out _ B3_W.out
  have ka1_8 := HK1_8.out _ B3_W.out
  have ka1_9 := HK1_9.out _ B3_W.out
  have ka2_0 := HK2_0.out _ B3_W.out
  have ka2_1 := HK2_1.out _ B3_W.out
  have ka2_2 := HK2_2.out _ B3_W.out
  have ka2_3 := HK2_3.out _ B3_W.out
  have ka2_4 := HK2_4.out _ B3_W.out
  have ka2_5 := HK2_5.out _ B3_W.out
  have ka2_6 := HK2_6.out _ B3_W.out
  have ka2_7 := HK2_7.out _ B3_W.out
  have ka2_8 := HK2_8.out _ B3_W.out
  have ka2_9 := HK2_9.out _ B3_W.out
  have hbd : Bel w3 w3.drew := Bel.of (Below.refl _ _).drew
  have hgw0 : w.heap.size < w3.heap.size := Nat.lt_of_lt_of_le (by have := HZ.out; omega) B3_W.out.size
  have hgw1 : w.heap.size + 1 < w3.heap.size := Nat.lt_of_lt_of_le (by have := HZ.out; omega) B3_W.out.size
  have hgw2 : w.heap.size + 1 + 1 < w3.heap.size := Nat.lt_of_lt_of_le (by have := HZ.out; omega) B3_W.out.size
  go_upto_region 11 with fail
  go_cut [8, 9] (fun s8 s9 wx => s8 = .bool r1 ∧ s9 = .bool r2 ∧ Bel w3 wx)
  case first =>
    go_region_held3 (fun U => U.cell? ⟨w.heap.size, 0, none⟩ = some (.slice A1 n1 c1) ∧ U.cell? ⟨w.heap.size, 1, none⟩ = some (.slice A2 n2 c2) ∧ U.cell? ⟨w.heap.size + 1, 0, none⟩ = some (.int .i64 iia) ∧ U.cell? ⟨w.heap.size + 1, 1, none⟩ = some (.int .i64 kka) ∧ U.cell? ⟨w.heap.size + 1, 2, none⟩ = some (.int .i64 saa) ∧ U.cell? ⟨w.heap.size + 1, 3, none⟩ = some (.slice Aa1 na1 ca1) ∧ U.cell? ⟨w.heap.size + 1, 4, none⟩ = some (.int .i64 xaa) ∧ U.cell? ⟨w.heap.size + 1, 5, none⟩ = some (.int .i64 yaa) ∧ U.cell? ⟨w.heap.size + 1, 6, none⟩ = some (.int .i64 sba) ∧ U.cell? ⟨w.heap.size + 1, 7, none⟩ = some (.slice Aa2 na2 ca2) ∧ U.cell? ⟨w.heap.size + 1, 8, none⟩ = some (.int .i64 xba) ∧ U.cell? ⟨w.heap.size + 1, 9, none⟩ = some (.int .i64 yba) ∧ U.cell? ⟨w.heap.size + 1 + 1, 0, none⟩ = some (.int .i64 iib) ∧ U.cell? ⟨w.heap.size + 1 + 1, 1, none⟩ = some (.int .i64 kkb) ∧ U.cell? ⟨w.heap.size + 1 + 1, 2, none⟩ = some (.int .i64 sab) ∧ U.cell? ⟨w.heap.size + 1 + 1, 3, none⟩ = some (.slice Ab1 nb1 cb1) ∧ U.cell? ⟨w.heap.size + 1 + 1, 4, none⟩ = some (.int .i64 xab) ∧ U.cell? ⟨w.heap.size + 1 + 1, 5, none⟩ = some (.int .i64 yab) ∧ U.cell? ⟨w.heap.size + 1 + 1, 6, none⟩ = some (.int .i64 sbb) ∧ U.cell? ⟨w.heap.size + 1 + 1, 7, none⟩ = some (.slice Ab2 nb2 cb2) ∧ U.cell? ⟨w.heap.size + 1 + 1, 8, none⟩ = some (.int .i64 xbb) ∧ U.cell? ⟨w.heap.size + 1 + 1, 9, none⟩ = some (.int .i64 ybb) ∧ Bel w3 U)
      (first | go_keep | (go_split_ands; (refine ⟨?_, ?_, ?_, ?_, ?_, ?_, ?_, ?_, ?_, ?_, ?_, ?_, ?_, ?_, ?_, ?_, ?_, ?_, ?_, ?_, ?_, ?_, ?_⟩ <;> first | assumption | exact Bel.step (by assumption) hbc1a | exact (Bel.at_ (by assumption) hbc1a (by assumption)).trans (by assumption) | exact Bel.step (by assumption) hbc1b | exact (Bel.at_ (by assumption) hbc1b (by assumption)).trans (by assumption) | exact Bel.step (by assumption) hbc1c | exact (Bel.at_ (by assumption) hbc1c (by assumption)).trans (by assumption) | exact Bel.step (by assumption) hbc1z | exact (Bel.at_ (by assumption) hbc1z (by assumption)).trans (by assumption))))
      (first
        | (go_at_call 15
           go_split_ands
           refine (toNet A1 A2 n1 c1 n2 c2 ss fs _ HN1.out (HR1.out _ (Below.trans B3_W.out ((Bel.out (by assumption)).mono B3_W.out.size))) hsm1 HN2.out (HR2.out _ (Below.trans B3_W.out ((Bel.out (by assumption)).mono B3_W.out.size))) hsm2).mono ?_
           rintro e u1a ⟨c1a1, c1a2, rfl, hoc1a1, hoc1a2, hbc1a⟩
           have Rc1a1 : Hid (∀ V, Below u1a.heap.size u1a V → Rd V V.heap.size (some ⟨c1a1, 0, none⟩) (ss.map Value.string)) := Lib.hid fun V hV => (Rd.ofOwnK hoc1a1).moved hV
           have Rc1a2 : Hid (∀ V, Below u1a.heap.size u1a V → Rd V V.heap.size (some ⟨c1a2, 0, none⟩) (fs.flatMap Q4.cells)) := Lib.hid fun V hV => (Rd.ofOwnK hoc1a2).moved hV
           clear hoc1a1 hoc1a2)
        | (go_at_call 16
           go_split_ands
           with_reducible refine (toSv iia kka saa xaa yaa sba xba yba Aa1 na1 ca1 Aa2 na2 ca2 a1 a2 _ HNa1.out (HRa1.out _ (Below.trans B3_W.out ((Bel.out (by assumption)).mono B3_W.out.size))) hsma1 HNa2.out (HRa2.out _ (Below.trans B3_W.out ((Bel.out (by assumption)).mono B3_W.out.size))) hsma2).mono ?_
           rintro e u1b ⟨c1b1, c1b2, rfl, hoc1b1, hoc1b2, hgc1b, hbc1b⟩
           have Rc1b1 : Hid (∀ V, Below u1b.heap.size u1b V → Rd V V.heap.size (some ⟨c1b1, 0, none⟩) (a1.map (Value.int .i64))) := Lib.hid fun V hV => (Rd.ofOwnK hoc1b1).moved hV
           have Rc1b2 : Hid (∀ V, Below u1b.heap.size u1b V → Rd V V.heap.size (some ⟨c1b2, 0, none⟩) (a2.map (Value.int .i64))) := Lib.hid fun V hV => (Rd.ofOwnK hoc1b2).moved hV
           clear hoc1b1 hoc1b2 hgc1b)
        | (go_at_call 16
           go_split_ands
           with_reducible refine (toSv iib kkb sab xab yab sbb xbb ybb Ab1 nb1 cb1 Ab2 nb2 cb2 b1 b2 _ HNb1.out (HRb1.out _ (Below.trans B3_W.out ((Bel.out (by assumption)).mono B3_W.out.size))) hsmb1 HNb2.out (HRb2.out _ (Below.trans B3_W.out ((Bel.out (by assumption)).mono B3_W.out.size))) hsmb2).mono ?_
           rintro e u1c ⟨c1c1, c1c2, rfl, hoc1c1, hoc1c2, hgc1c, hbc1c⟩
           have Rc1c1 : Hid (∀ V, Below u1c.heap.size u1c V → Rd V V.heap.size (some ⟨c1c1, 0, none⟩) (b1.map (Value.int .i64))) := Lib.hid fun V hV => (Rd.ofOwnK hoc1c1).moved hV
           have Rc1c2 : Hid (∀ V, Below u1c.heap.size u1c V → Rd V V.heap.size (some ⟨c1c2, 0, none⟩) (b2.map (Value.int .i64))) := Lib.hid fun V hV => (Rd.ofOwnK hoc1c2).moved hV
           clear hoc1c1 hoc1c2 hgc1c)
        | (go_at_call 14
           go_split_ands
           refine (specACx ⟨HN1.out, hsm1, Nat.le_refl _, Rc1a1.out _ (by first | exact Below.refl _ _ | assumption | (apply belT; assumption; assumption)), HWS.out, HN2.out, hsm2, Rc1a2.out _ (by first | exact Below.refl _ _ | assumption | (apply belT; assumption; assumption))⟩ iia kka saa xaa yaa sba xba yba (ca1 := na1) HNa1.out (Rc1b1.out _ (by first | exact Below.refl _ _ | assumption | (apply belT; assumption; assumption))) hsma1 (ca2 := na2) HNa2.out (Rc1b2.out _ (by first | exact Below.refl _ _ | assumption | (apply belT; assumption; assumption))) hsma2 iib kkb sab xab yab sbb xbb ybb (cb1 := nb1) HNb1.out (Rc1c1.out _ (by first | exact Below.refl _ _ | assumption | (apply belT; assumption; assumption))) hsmb1 (cb2 := nb2) HNb2.out (Rc1c2.out _ (by first | exact Below.refl _ _ | assumption | (apply belT; assumption; assumption))) hsmb2).mono ?_
           rw [HRV.out]
           rintro e u1z ⟨rfl, hbc1z⟩))
    all_goals
      go_split_ands
      have hbl : Bel w3 u1z := by assumption
      clear ka0_0 ka0_1 ka1_0 ka1_1 ka1_2 ka1_3 ka1_4 ka1_5 ka1_6 ka1_7 ka1_8 ka1_9 ka2_0 ka2_1 ka2_2 ka2_3 ka2_4 ka2_5 ka2_6 ka2_7 ka2_8 ka2_9
      go_wp2_with fail
      go_meet
      exact ⟨rfl, rfl, hbl⟩
  case rest =>
  clear hbd hgw0 hgw1 hgw2 ka0_0 ka0_1 ka1_0 ka1_1 ka1_2 ka1_3 ka1_4 ka1_5 ka1_6 ka1_7 ka1_8 ka1_9 ka2_0 ka2_1 ka2_2 ka2_3 ka2_4 ka2_5 ka2_6 ka2_7 ka2_8 ka2_9
  revert hcut; generalize wc = wc1; intro hcut
  obtain ⟨h0_, h1_, hbl⟩ := hcut
  subst h0_ h1_
  have Ewc1_W := Lib.hid (B3_W.out.trans ((Bel.out hbl).mono B3_W.out.size))
  clear hbl
  have ka0_0 := HK0_0.out _ Ewc1_W.out
  have ka0_1 := HK0_1.out _ Ewc1_W.out
  go_wp2_with fail
  clear ka0_0 ka0_1
  have ZPRE0 := Lib.hid (Nat.le_refl 0)
  refine (toNet A1 A2 n1 c1 n2 c2 ss fs wc1 HN1.out (HR1.out _ Ewc1_W.out) hsm1 HN2.out (HR2.out _ Ewc1_W.out) hsm2).mono ?_
  rintro e w4 ⟨x01, x02, rfl, hox01, hox02, hb4⟩
  have B4_W := Lib.hid (Ewc1_W.out.trans (hb4.mono Ewc1_W.out.size))
  have HLAST4 := Lib.hid hb4
  clear hb4
  have Ox01 := Lib.hid hox01
  have Rx01 : Hid (∀ V, Below w4.heap.size w4 V → Rd V V.heap.size (some ⟨x01, 0, none⟩) (ss.map Value.string)) := Lib.hid fun V hV => (Rd.ofOwnK hox01).moved hV
  have Ox02 := Lib.hid hox02
  have Rx02 : Hid (∀ V, Below w4.heap.size w4 V → Rd V V.heap.size (some ⟨x02, 0, none⟩) (fs.flatMap Q4.cells)) := Lib.hid fun V hV => (Rd.ofOwnK hox02).moved hV
  clear hox01 hox02
  have Zw4 := Lib.hid (Below.refl w4.heap.size w4)
  have ka1_0 := HK1_0.out _ B4_W.out
  have ka1_1 := HK1_1.out _ B4_W.out
  have ka1_2 := HK1_2.out _ B4_W.out
  have ka1_3 := HK1_3.out _ B4_W.out
  have ka1_4 := HK1_4.out _ B4_W.out
  have ka1_5 := HK1_5.out _ B4_W.out
  have ka1_6 := HK1_6.out _ B4_W.out
  have ka1_7 := HK1_7.out _ B4_W.out
  have ka1_8 := HK1_8.out _ B4_W.out
  have ka1_9 := HK1_9.out _ B4_W.out
  have hgn : w.heap.size + 1 < w4.heap.size := Nat.lt_of_lt_of_le (by have := HZ.out; omega) B4_W.out.size
  go_wp2_with fail
  clear ka1_0 ka1_1 ka1_2 ka1_3 ka1_4 ka1_5 ka1_6 ka1_7 ka1_8 ka1_9 hgn
  obtain ⟨V0, hV0⟩ : ∃ V, (w4.alloc (Obj.cells #[.slice (some ⟨x01, 0, none⟩) n1 n1, .slice (some ⟨x02, 0, none⟩) n2 n2] 39)) = V := ⟨_, rfl⟩
  have hx0_0 : V0.cell? ⟨w4.heap.size, 0, none⟩ = some (.slice (some ⟨x01, 0, none⟩) n1 n1) := by rw [← hV0]; simp [go_sem]
  have hx0_1 : V0.cell? ⟨w4.heap.size, 1, none⟩ = some (.slice (some ⟨x02, 0, none⟩) n2 n2) := by rw [← hV0]; simp [go_sem]
  have hzV0 : w4.heap.size < V0.heap.size := by rw [← hV0]; simp
  have hbV0 : Below w4.heap.size w4 V0 := by rw [← hV0]; exact (Below.refl _ _).alloc (Nat.le_refl _) _
  rw [hV0]
  clear hV0
  have CV0_W := Lib.hid (B4_W.out.trans (hbV0.mono B4_W.out.size))
  have CV0_w4 := Lib.hid (Zw4.out.trans (hbV0.mono Zw4.out.size))
  have HX0_0 : Hid (∀ U, Below V0.heap.size V0 U → U.cell? ⟨w4.heap.size, 0, none⟩ = some (.slice (some ⟨x01, 0, none⟩) n1 n1)) := Lib.hid fun U hU => (hU.cell (p := ⟨_, _, none⟩) hzV0).trans hx0_0
  have HX0_1 : Hid (∀ U, Below V0.heap.size V0 U → U.cell? ⟨w4.heap.size, 1, none⟩ = some (.slice (some ⟨x02, 0, none⟩) n2 n2)) := Lib.hid fun U hU => (hU.cell (p := ⟨_, _, none⟩) hzV0).trans hx0_1
  have HZV0 := Lib.hid hzV0
  clear hzV0 hbV0 hx0_0 hx0_1
  have ZV0 := Lib.hid (Below.refl V0.heap.size V0)
  have ZPRE1 := Lib.hid (Nat.le_refl 0)
  refine (toSv iia kka saa xaa yaa sba xba yba Aa1 na1 ca1 Aa2 na2 ca2 a1 a2 V0 HNa1.out (HRa1.out _ CV0_W.out) hsma1 HNa2.out (HRa2.out _ CV0_W.out) hsma2).mono ?_
  rintro e w5 ⟨x11, x12, rfl, hox11, hox12, hgx1, hb5⟩
  have B5_W := Lib.hid (CV0_W.out.trans (hb5.mono CV0_W.out.size))
  have B5_w4 := Lib.hid (CV0_w4.out.trans (hb5.mono CV0_w4.out.size))
  have B5_V0 := Lib.hid (ZV0.out.trans (hb5.mono ZV0.out.size))
  have HLAST5 := Lib.hid hb5
  clear hb5
  have Ox11 := Lib.hid hox11
  have Rx11 : Hid (∀ V, Below w5.heap.size w5 V → Rd V V.heap.size (some ⟨x11, 0, none⟩) (a1.map (Value.int .i64))) := Lib.hid fun V hV => (Rd.ofOwnK hox11).moved hV
  have Ox12 := Lib.hid hox12
  have Rx12 : Hid (∀ V, Below w5.heap.size w5 V → Rd V V.heap.size (some ⟨x12, 0, none⟩) (a2.map (Value.int .i64))) := Lib.hid fun V hV => (Rd.ofOwnK hox12).moved hV
  clear hox11 hox12
  have Zw5 := Lib.hid (Below.refl w5.heap.size w5)
  have ka2_0 := HK2_0.out _ B5_W.out
  have ka2_1 := HK2_1.out _ B5_W.out
  have ka2_2 := HK2_2.out _ B5_W.out
  have ka2_3 := HK2_3.out _ B5_W.out
  have ka2_4 := HK2_4.out _ B5_W.out
  have ka2_5 := HK2_5.out _ B5_W.out
  have ka2_6 := HK2_6.out _ B5_W.out
  have ka2_7 := HK2_7.out _ B5_W.out
  have ka2_8 := HK2_8.out _ B5_W.out
  have ka2_9 := HK2_9.out _ B5_W.out
  have hgn : w.heap.size + 1 + 1 < w5.heap.size := Nat.lt_of_lt_of_le (by have := HZ.out; omega) B5_W.out.size
  go_wp2_with fail
  clear ka2_0 ka2_1 ka2_2 ka2_3 ka2_4 ka2_5 ka2_6 ka2_7 ka2_8 ka2_9 hgn
  obtain ⟨V1, hV1⟩ : ∃ V, (w5.alloc (Obj.cells #[.int .i64 iia, .int .i64 kka, .int .i64 saa, .slice (some ⟨x11, 0, none⟩) na1 na1, .int .i64 xaa, .int .i64 yaa, .int .i64 sba, .slice (some ⟨x12, 0, none⟩) na2 na2, .int .i64 xba, .int .i64 yba] 44)) = V := ⟨_, rfl⟩
  have hx1_0 : V1.cell? ⟨w5.heap.size, 0, none⟩ = some (.int .i64 iia) := by rw [← hV1]; simp [go_sem]
  have hx1_1 : V1.cell? ⟨w5.heap.size, 1, none⟩ = some (.int .i64 kka) := by rw [← hV1]; simp [go_sem]
  have hx1_2 : V1.cell? ⟨w5.heap.size, 2, none⟩ = some (.int .i64 saa) := by rw [← hV1]; simp [go_sem]
  have hx1_3 : V1.cell? ⟨w5.heap.size, 3, none⟩ = some (.slice (some ⟨x11, 0, none⟩) na1 na1) := by rw [← hV1]; simp [go_sem]
  have hx1_4 : V1.cell? ⟨w5.heap.size, 4, none⟩ = some (.int .i64 xaa) := by rw [← hV1]; simp [go_sem]
  have hx1_5 : V1.cell? ⟨w5.heap.size, 5, none⟩ = some (.int .i64 yaa) := by rw [← hV1]; simp [go_sem]
  have hx1_6 : V1.cell? ⟨w5.heap.size, 6, none⟩ = some (.int .i64 sba) := by rw [← hV1]; simp [go_sem]
  have hx1_7 : V1.cell? ⟨w5.heap.size, 7, none⟩ = some (.slice (some ⟨x12, 0, none⟩) na2 na2) := by rw [← hV1]; simp [go_sem]
  have hx1_8 : V1.cell? ⟨w5.heap.size, 8, none⟩ = some (.int .i64 xba) := by rw [← hV1]; simp [go_sem]
  have hx1_9 : V1.cell? ⟨w5.heap.size, 9, none⟩ = some (.int .i64 yba) := by rw [← hV1]; simp [go_sem]
  have hzV1 : w5.heap.size < V1.heap.size := by rw [← hV1]; simp
  have hbV1 : Below w5.heap.size w5 V1 := by rw [← hV1]; exact (Below.refl _ _).alloc (Nat.le_refl _) _
  rw [hV1]
  clear hV1
  have CV1_W := Lib.hid (B5_W.out.trans (hbV1.mono B5_W.out.size))
  have CV1_w4 := Lib.hid (B5_w4.out.trans (hbV1.mono B5_w4.out.size))
  have CV1_V0 := Lib.hid (B5_V0.out.trans (hbV1.mono B5_V0.out.size))
  have CV1_w5 := Lib.hid (Zw5.out.trans (hbV1.mono Zw5.out.size))
  have HX1_0 : Hid (∀ U, Below V1.heap.size V1 U → U.cell? ⟨w5.heap.size, 0, none⟩ = some (.int .i64 iia)) := Lib.hid fun U hU => (hU.cell (p := ⟨_, _, none⟩) hzV1).trans hx1_0
  have HX1_1 : Hid (∀ U, Below V1.heap.size V1 U → U.cell? ⟨w5.heap.size, 1, none⟩ = some (.int .i64 kka)) := Lib.hid fun U hU => (hU.cell (p := ⟨_, _, none⟩) hzV1).trans hx1_1
  have HX1_2 : Hid (∀ U, Below V1.heap.size V1 U → U.cell? ⟨w5.heap.size, 2, none⟩ = some (.int .i64 saa)) := Lib.hid fun U hU => (hU.cell (p := ⟨_, _, none⟩) hzV1).trans hx1_2
  have HX1_3 : Hid (∀ U, Below V1.heap.size V1 U → U.cell? ⟨w5.heap.size, 3, none⟩ = some (.slice (some ⟨x11, 0, none⟩) na1 na1)) := Lib.hid fun U hU => (hU.cell (p := ⟨_, _, none⟩) hzV1).trans hx1_3
  have HX1_4 : Hid (∀ U, Below V1.heap.size V1 U → U.cell? ⟨w5.heap.size, 4, none⟩ = some (.int .i64 xaa)) := Lib.hid fun U hU => (hU.cell (p := ⟨_, _, none⟩) hzV1).trans hx1_4
  have HX1_5 : Hid (∀ U, Below V1.heap.size V1 U → U.cell? ⟨w5.heap.size, 5, none⟩ = some (.int .i64 yaa)) := Lib.hid fun U hU => (hU.cell (p := ⟨_, _, none⟩) hzV1).trans hx1_5
  have HX1_6 : Hid (∀ U, Below V1.heap.size V1 U → U.cell? ⟨w5.heap.size, 6, none⟩ = some (.int .i64 sba)) := Lib.hid fun U hU => (hU.cell (p := ⟨_, _, none⟩) hzV1).trans hx1_6
  have HX1_7 : Hid (∀ U, Below V1.heap.size V1 U → U.cell? ⟨w5.heap.size, 7, none⟩ = some (.slice (some ⟨x12, 0, none⟩) na2 na2)) := Lib.hid fun U hU => (hU.cell (p := ⟨_, _, none⟩) hzV1).trans hx1_7
  have HX1_8 : Hid (∀ U, Below V1.heap.size V1 U → U.cell? ⟨w5.heap.size, 8, none⟩ = some (.int .i64 xba)) := Lib.hid fun U hU => (hU.cell (p := ⟨_, _, none⟩) hzV1).trans hx1_8
  have HX1_9 : Hid (∀ U, Below V1.heap.size V1 U → U.cell? ⟨w5.heap.size, 9, none⟩ = some (.int .i64 yba)) := Lib.hid fun U hU => (hU.cell (p := ⟨_, _, none⟩) hzV1).trans hx1_9
  have HZV1 := Lib.hid hzV1
  clear hzV1 hbV1 hx1_0 hx1_1 hx1_2 hx1_3 hx1_4 hx1_5 hx1_6 hx1_7 hx1_8 hx1_9
  have ZV1 := Lib.hid (Below.refl V1.heap.size V1)
  have ZPRE2 := Lib.hid (Nat.le_refl 0)
  refine (toSv iib kkb sab xab yab sbb xbb ybb Ab1 nb1 cb1 Ab2 nb2 cb2 b1 b2 V1 HNb1.out (HRb1.out _ CV1_W.out) hsmb1 HNb2.out (HRb2.out _ CV1_W.out) hsmb2).mono ?_
  rintro e w6 ⟨x21, x22, rfl, hox21, hox22, hgx2, hb6⟩
  have B6_W := Lib.hid (CV1_W.out.trans (hb6.mono CV1_W.out.size))
  have B6_w4 := Lib.hid (CV1_w4.out.trans (hb6.mono CV1_w4.out.size))
  have B6_V0 := Lib.hid (CV1_V0.out.trans (hb6.mono CV1_V0.out.size))
  have B6_w5 := Lib.hid (CV1_w5.out.trans (hb6.mono CV1_w5.out.size))
  have B6_V1 := Lib.hid (ZV1.out.trans (hb6.mono ZV1.out.size))
  have HLAST6 := Lib.hid hb6
  clear hb6
  have Ox21 := Lib.hid hox21
  have Rx21 : Hid (∀ V, Below w6.heap.size w6 V → Rd V V.heap.size (some ⟨x21, 0, none⟩) (b1.map (Value.int .i64))) := Lib.hid fun V hV => (Rd.ofOwnK hox21).moved hV
  have Ox22 := Lib.hid hox22
  have Rx22 : Hid (∀ V, Below w6.heap.size w6 V → Rd V V.heap.size (some ⟨x22, 0, none⟩) (b2.map (Value.int .i64))) := Lib.hid fun V hV => (Rd.ofOwnK hox22).moved hV
  clear hox21 hox22
  have Zw6 := Lib.hid (Below.refl w6.heap.size w6)
  have kz0_0 := HX0_0.out _ B6_V0.out
  have kz0_1 := HX0_1.out _ B6_V0.out
  have hgz0 : w4.heap.size < w6.heap.size := Nat.lt_of_lt_of_le HZV0.out B6_V0.out.size
  have kz1_0 := HX1_0.out _ B6_V1.out
  have kz1_1 := HX1_1.out _ B6_V1.out
  have kz1_2 := HX1_2.out _ B6_V1.out
  have kz1_3 := HX1_3.out _ B6_V1.out
  have kz1_4 := HX1_4.out _ B6_V1.out
  have kz1_5 := HX1_5.out _ B6_V1.out
  have kz1_6 := HX1_6.out _ B6_V1.out
  have kz1_7 := HX1_7.out _ B6_V1.out
  have kz1_8 := HX1_8.out _ B6_V1.out
  have kz1_9 := HX1_9.out _ B6_V1.out
  have hgz1 : w5.heap.size < w6.heap.size := Nat.lt_of_lt_of_le HZV1.out B6_V1.out.size
  go_wp2_with fail
  clear kz0_0 kz0_1 hgz0 kz1_0 kz1_1 kz1_2 kz1_3 kz1_4 kz1_5 kz1_6 kz1_7 kz1_8 kz1_9 hgz1
  obtain ⟨V2, hV2⟩ : ∃ V, (w6.alloc (Obj.cells #[.int .i64 iib, .int .i64 kkb, .int .i64 sab, .slice (some ⟨x21, 0, none⟩) nb1 nb1, .int .i64 xab, .int .i64 yab, .int .i64 sbb, .slice (some ⟨x22, 0, none⟩) nb2 nb2, .int .i64 xbb, .int .i64 ybb] 44)) = V := ⟨_, rfl⟩
  have hx2_0 : V2.cell? ⟨w6.heap.size, 0, none⟩ = some (.int .i64 iib) := by rw [← hV2]; simp [go_sem]
  have hx2_1 : V2.cell? ⟨w6.heap.size, 1, none⟩ = some (.int .i64 kkb) := by rw [← hV2]; simp [go_sem]
  have hx2_2 : V2.cell? ⟨w6.heap.size, 2, none⟩ = some (.int .i64 sab) := by rw [← hV2]; simp [go_sem]
  have hx2_3 : V2.cell? ⟨w6.heap.size, 3, none⟩ = some (.slice (some ⟨x21, 0, none⟩) nb1 nb1) := by rw [← hV2]; simp [go_sem]
  have hx2_4 : V2.cell? ⟨w6.heap.size, 4, none⟩ = some (.int .i64 xab) := by rw [← hV2]; simp [go_sem]
  have hx2_5 : V2.cell? ⟨w6.heap.size, 5, none⟩ = some (.int .i64 yab) := by rw [← hV2]; simp [go_sem]
  have hx2_6 : V2.cell? ⟨w6.heap.size, 6, none⟩ = some (.int .i64 sbb) := by rw [← hV2]; simp [go_sem]
  have hx2_7 : V2.cell? ⟨w6.heap.size, 7, none⟩ = some (.slice (some ⟨x22, 0, none⟩) nb2 nb2) := by rw [← hV2]; simp [go_sem]
  have hx2_8 : V2.cell? ⟨w6.heap.size, 8, none⟩ = some (.int .i64 xbb) := by rw [← hV2]; simp [go_sem]
  have hx2_9 : V2.cell? ⟨w6.heap.size, 9, none⟩ = some (.int .i64 ybb) := by rw [← hV2]; simp [go_sem]
  have hzV2 : w6.heap.size < V2.heap.size := by rw [← hV2]; simp
  have hbV2 : Below w6.heap.size w6 V2 := by rw [← hV2]; exact (Below.refl _ _).alloc (Nat.le_refl _) _
  rw [hV2]
  clear hV2
  have CV2_W := Lib.hid (B6_W.out.trans (hbV2.mono B6_W.out.size))
  have CV2_w4 := Lib.hid (B6_w4.out.trans (hbV2.mono B6_w4.out.size))
  have CV2_V0 := Lib.hid (B6_V0.out.trans (hbV2.mono B6_V0.out.size))
  have CV2_w5 := Lib.hid (B6_w5.out.trans (hbV2.mono B6_w5.out.size))
  have CV2_V1 := Lib.hid (B6_V1.out.trans (hbV2.mono B6_V1.out.size))
  have CV2_w6 := Lib.hid (Zw6.out.trans (hbV2.mono Zw6.out.size))
  have HX2_0 : Hid (∀ U, Below V2.heap.size V2 U → U.cell? ⟨w6.heap.size, 0, none⟩ = some (.int .i64 iib)) := Lib.hid fun U hU => (hU.cell (p := ⟨_, _, none⟩) hzV2).trans hx2_0
  have HX2_1 : Hid (∀ U, Below V2.heap.size V2 U → U.cell? ⟨w6.heap.size, 1, none⟩ = some (.int .i64 kkb)) := Lib.hid fun U hU => (hU.cell (p := ⟨_, _, none⟩) hzV2).trans hx2_1
  have HX2_2 : Hid (∀ U, Below V2.heap.size V2 U → U.cell? ⟨w6.heap.size, 2, none⟩ = some (.int .i64 sab)) := Lib.hid fun U hU => (hU.cell (p := ⟨_, _, none⟩) hzV2).trans hx2_2
  have HX2_3 : Hid (∀ U, Below V2.heap.size V2 U → U.cell? ⟨w6.heap.size, 3, none⟩ = some (.slice (some ⟨x21, 0, none⟩) nb1 nb1)) := Lib.hid fun U hU => (hU.cell (p := ⟨_, _, none⟩) hzV2).trans hx2_3
  have HX2_4 : Hid (∀ U, Below V2.heap.size V2 U → U.cell? ⟨w6.heap.size, 4, none⟩ = some (.int .i64 xab)) := Lib.hid fun U hU => (hU.cell (p := ⟨_, _, none⟩) hzV2).trans hx2_4
  have HX2_5 : Hid (∀ U, Below V2.heap.size V2 U → U.cell? ⟨w6.heap.size, 5, none⟩ = some (.int .i64 yab)) := Lib.hid fun U hU => (hU.cell (p := ⟨_, _, none⟩) hzV2).trans hx2_5
  have HX2_6 : Hid (∀ U, Below V2.heap.size V2 U → U.cell? ⟨w6.heap.size, 6, none⟩ = some (.int .i64 sbb)) := Lib.hid fun U hU => (hU.cell (p := ⟨_, _, none⟩) hzV2).trans hx2_6
  have HX2_7 : Hid (∀ U, Below V2.heap.size V2 U → U.cell? ⟨w6.heap.size, 7, none⟩ = some (.slice (some ⟨x22, 0, none⟩) nb2 nb2)) := Lib.hid fun U hU => (hU.cell (p := ⟨_, _, none⟩) hzV2).trans hx2_7
  have HX2_8 : Hid (∀ U, Below V2.heap.size V2 U → U.cell? ⟨w6.heap.size, 8, none⟩ = some (.int .i64 xbb)) := Lib.hid fun U hU => (hU.cell (p := ⟨_, _, none⟩) hzV2).trans hx2_8
  have HX2_9 : Hid (∀ U, Below V2.heap.size V2 U → U.cell? ⟨w6.heap.size, 9, none⟩ = some (.int .i64 ybb)) := Lib.hid fun U hU => (hU.cell (p := ⟨_, _, none⟩) hzV2).trans hx2_9
  have HZV2 := Lib.hid hzV2
  clear hzV2 hbV2 hx2_0 hx2_1 hx2_2 hx2_3 hx2_4 hx2_5 hx2_6 hx2_7 hx2_8 hx2_9
  have ZV2 := Lib.hid (Below.refl V2.heap.size V2)
  refine (implACx ⟨HN1.out, hsm1, Nat.le_refl _, Rx01.out _ CV2_w4.out, HWS.out, HN2.out, hsm2, Rx02.out _ CV2_w4.out⟩ iia kka saa xaa yaa sba xba yba (ca1 := na1) HNa1.out (Rx11.out _ CV2_w5.out) hsma1 (ca2 := na2) HNa2.out (Rx12.out _ CV2_w5.out) hsma2 iib kkb sab xab yab sbb xbb ybb (cb1 := nb1) HNb1.out (Rx21.out _ CV2_w6.out) hsmb1 (cb2 := nb2) HNb2.out (Rx22.out _ CV2_w6.out) hsmb2).mono ?_
  rw [HRV.out]
  rintro e w7 ⟨rfl, hb7⟩
  have B7_W := Lib.hid (CV2_W.out.trans (hb7.mono CV2_W.out.size))
  have B7_w4 := Lib.hid (CV2_w4.out.trans (hb7.mono CV2_w4.out.size))
  have B7_V0 := Lib.hid (CV2_V0.out.trans (hb7.mono CV2_V0.out.size))
  have B7_w5 := Lib.hid (CV2_w5.out.trans (hb7.mono CV2_w5.out.size))
  have B7_V1 := Lib.hid (CV2_V1.out.trans (hb7.mono CV2_V1.out.size))
  have B7_w6 := Lib.hid (CV2_w6.out.trans (hb7.mono CV2_w6.out.size))
  have B7_V2 := Lib.hid (ZV2.out.trans (hb7.mono ZV2.out.size))
  have HLAST7 := Lib.hid hb7
  clear hb7
  have ka0_0 := HK0_0.out _ B7_W.out
  have ka0_1 := HK0_1.out _ B7_W.out
  have kx0_0 := HX0_0.out _ B7_V0.out
  have kx0_1 := HX0_1.out _ B7_V0.out
  have hgx : w4.heap.size < w7.heap.size := Nat.lt_of_lt_of_le HZV0.out B7_V0.out.size
  have hgw : w.heap.size < w7.heap.size := Nat.lt_of_lt_of_le (by have := HZ.out; omega) B7_W.out.size
  have hbd : Bel w7 w7.drew := Bel.of (Below.refl _ _).drew
  go_upto_region 18 with fail
  go_cut [65] (fun s65 wx => s65 = .bool false ∧ Bel w7 wx)
  case first =>
    go_region_held3 (fun U => U.cell? ⟨w4.heap.size, 0, none⟩ = some (.slice (some ⟨x01, 0, none⟩) n1 n1) ∧ U.cell? ⟨w4.heap.size, 1, none⟩ = some (.slice (some ⟨x02, 0, none⟩) n2 n2) ∧ U.cell? ⟨w.heap.size, 0, none⟩ = some (.slice A1 n1 c1) ∧ U.cell? ⟨w.heap.size, 1, none⟩ = some (.slice A2 n2 c2) ∧ Bel w7 U)
      (first | go_keep | (go_split_ands; (refine ⟨?_, ?_, ?_, ?_, ?_⟩ <;> first | assumption | exact Bel.step (by assumption) hbt8 | exact Bel.step (by assumption) hbt9 | exact (Bel.at_ (by assumption) hbt8 (by assumption)).trans (by assumption) | exact (Bel.at_ (by assumption) hbt9 (by assumption)).trans (by assumption))))
      (first
        | (go_at_call 15
           go_split_ands
           refine (toNet A1 A2 n1 c1 n2 c2 ss fs _ HN1.out (HR1.out _ (Below.trans B7_W.out ((Bel.out (by assumption)).mono B7_W.out.size))) hsm1 HN2.out (HR2.out _ (Below.trans B7_W.out ((Bel.out (by assumption)).mono B7_W.out.size))) hsm2).mono ?_
           rintro e t8 ⟨y91, y92, rfl, hoy91, hoy92, hbt8⟩
           have Sy91 := Lib.hid (Rd.ofOwnK hoy91)
           have Sy92 := Lib.hid (Rd.ofOwnK hoy92)
           clear hoy91 hoy92)
        | (go_at_call 18
           go_split_ands
           refine (eqNet x01 x02 y91 y92 n1 n2 n1 n2 n1 n2 ss fs t8 HN1.out hsm1 HN2.out hsm2 (Rx01.out _ (Below.trans B7_w4.out ((Bel.out (by assumption)).mono B7_w4.out.size))) (Sy91.out) (Rx02.out _ (Below.trans B7_w4.out ((Bel.out (by assumption)).mono B7_w4.out.size))) (Sy92.out)).mono ?_
           rintro e t9 ⟨rfl, hbt9⟩))
    all_goals
      go_split_ands
      have hbl : Bel w7 t9 := by assumption
      go_wp2_with fail
      go_meet
      exact ⟨rfl, hbl⟩
  case rest =>
  clear hbd hgx hgw ka0_0 ka0_1 kx0_0 kx0_1
  revert hcut; generalize wc = wc2; intro hcut
  obtain ⟨hs_, hbl⟩ := hcut
  subst hs_
  have Ewc2_W := Lib.hid (B7_W.out.trans ((Bel.out hbl).mono B7_W.out.size))
  have Ewc2_w4 := Lib.hid (B7_w4.out.trans ((Bel.out hbl).mono B7_w4.out.size))
  have Ewc2_V0 := Lib.hid (B7_V0.out.trans ((Bel.out hbl).mono B7_V0.out.size))
  have Ewc2_w5 := Lib.hid (B7_w5.out.trans ((Bel.out hbl).mono B7_w5.out.size))
  have Ewc2_V1 := Lib.hid (B7_V1.out.trans ((Bel.out hbl).mono B7_V1.out.size))
  have Ewc2_w6 := Lib.hid (B7_w6.out.trans ((Bel.out hbl).mono B7_w6.out.size))
  have Ewc2_V2 := Lib.hid (B7_V2.out.trans ((Bel.out hbl).mono B7_V2.out.size))
  clear hbl
  have ka1_0 := HK1_0.out _ Ewc2_W.out
  have ka1_1 := HK1_1.out _ Ewc2_W.out
  have ka1_2 := HK1_2.out _ Ewc2_W.out
  have ka1_3 := HK1_3.out _ Ewc2_W.out
  have ka1_4 := HK1_4.out _ Ewc2_W.out
  have ka1_5 := HK1_5.out _ Ewc2_W.out
  have ka1_6 := HK1_6.out _ Ewc2_W.out
  have ka1_7 := HK1_7.out _ Ewc2_W.out
  have ka1_8 := HK1_8.out _ Ewc2_W.out
  have ka1_9 := HK1_9.out _ Ewc2_W.out
  have kx1_0 := HX1_0.out _ Ewc2_V1.out
  have kx1_1 := HX1_1.out _ Ewc2_V1.out
  have kx1_2 := HX1_2.out _ Ewc2_V1.out
  have kx1_3 := HX1_3.out _ Ewc2_V1.out
  have kx1_4 := HX1_4.out _ Ewc2_V1.out
  have kx1_5 := HX1_5.out _ Ewc2_V1.out
  have kx1_6 := HX1_6.out _ Ewc2_V1.out
  have kx1_7 := HX1_7.out _ Ewc2_V1.out
  have kx1_8 := HX1_8.out _ Ewc2_V1.out
  have kx1_9 := HX1_9.out _ Ewc2_V1.out
  have hgx : w5.heap.size < wc2.heap.size := Nat.lt_of_lt_of_le HZV1.out Ewc2_V1.out.size
  have hgw : w.heap.size + 1 < wc2.heap.size := Nat.lt_of_lt_of_le (by have := HZ.out; omega) Ewc2_W.out.size
  have hbd : Bel wc2 wc2.drew := Bel.of (Below.refl _ _).drew
  go_upto_region 20 with fail
  go_cut [70] (fun s70 wx => s70 = .bool false ∧ Bel wc2 wx)
  case first =>
    go_region_held3 (fun U => U.cell? ⟨w5.heap.size, 0, none⟩ = some (.int .i64 iia) ∧ U.cell? ⟨w5.heap.size, 1, none⟩ = some (.int .i64 kka) ∧ U.cell? ⟨w5.heap.size, 2, none⟩ = some (.int .i64 saa) ∧ U.cell? ⟨w5.heap.size, 3, none⟩ = some (.slice (some ⟨x11, 0, none⟩) na1 na1) ∧ U.cell? ⟨w5.heap.size, 4, none⟩ = some (.int .i64 xaa) ∧ U.cell? ⟨w5.heap.size, 5, none⟩ = some (.int .i64 yaa) ∧ U.cell? ⟨w5.heap.size, 6, none⟩ = some (.int .i64 sba) ∧ U.cell? ⟨w5.heap.size, 7, none⟩ = some (.slice (some ⟨x12, 0, none⟩) na2 na2) ∧ U.cell? ⟨w5.heap.size, 8, none⟩ = some (.int .i64 xba) ∧ U.cell? ⟨w5.heap.size, 9, none⟩ = some (.int .i64 yba) ∧ U.cell? ⟨w.heap.size + 1, 0, none⟩ = some (.int .i64 iia) ∧ U.cell? ⟨w.heap.size + 1, 1, none⟩ = some (.int .i64 kka) ∧ U.cell? ⟨w.heap.size + 1, 2, none⟩ = some (.int .i64 saa) ∧ U.cell? ⟨w.heap.size + 1, 3, none⟩ = some (.slice Aa1 na1 ca1) ∧ U.cell? ⟨w.heap.size + 1, 4, none⟩ = some (.int .i64 xaa) ∧ U.cell? ⟨w.heap.size + 1, 5, none⟩ = some (.int .i64 yaa) ∧ U.cell? ⟨w.heap.size + 1, 6, none⟩ = some (.int .i64 sba) ∧ U.cell? ⟨w.heap.size + 1, 7, none⟩ = some (.slice Aa2 na2 ca2) ∧ U.cell? ⟨w.heap.size + 1, 8, none⟩ = some (.int .i64 xba) ∧ U.cell? ⟨w.heap.size + 1, 9, none⟩ = some (.int .i64 yba) ∧ Bel wc2 U)
      (first | go_keep | (go_split_ands; (refine ⟨?_, ?_, ?_, ?_, ?_, ?_, ?_, ?_, ?_, ?_, ?_, ?_, ?_, ?_, ?_, ?_, ?_, ?_, ?_, ?_, ?_⟩ <;> first | assumption | exact Bel.step (by assumption) hbt10 | exact Bel.step (by assumption) hbt11 | exact (Bel.at_ (by assumption) hbt10 (by assumption)).trans (by assumption) | exact (Bel.at_ (by assumption) hbt11 (by assumption)).trans (by assumption))))
      (first
        | (go_at_call 16
           go_split_ands
           refine (toSv iia kka saa xaa yaa sba xba yba Aa1 na1 ca1 Aa2 na2 ca2 a1 a2 _ HNa1.out (HRa1.out _ (Below.trans Ewc2_W.out ((Bel.out (by assumption)).mono Ewc2_W.out.size))) hsma1 HNa2.out (HRa2.out _ (Below.trans Ewc2_W.out ((Bel.out (by assumption)).mono Ewc2_W.out.size))) hsma2).mono ?_
           rintro e t10 ⟨y111, y112, rfl, hoy111, hoy112, hgy11, hbt10⟩
           have Sy111 := Lib.hid (Rd.ofOwnK hoy111)
           have Sy112 := Lib.hid (Rd.ofOwnK hoy112)
           clear hoy111 hoy112)
        | (go_at_call 19
           go_split_ands
           refine (eqSv iia kka saa xaa yaa sba xba yba x11 y111 na1 na1 na1 x12 y112 na2 na2 na2 a1 a2 t10 HNa1.out hsma1 (Rx11.out _ (Below.trans Ewc2_w5.out ((Bel.out (by assumption)).mono Ewc2_w5.out.size))) (Sy111.out) HNa2.out hsma2 (Rx12.out _ (Below.trans Ewc2_w5.out ((Bel.out (by assumption)).mono Ewc2_w5.out.size))) (Sy112.out)).mono ?_
           rintro e t11 ⟨rfl, hbt11⟩))
    all_goals
      go_split_ands
      have hbl : Bel wc2 t11 := by assumption
      go_wp2_with fail
      go_meet
      exact ⟨rfl, hbl⟩
  case rest =>
  clear hbd hgx hgw ka1_0 ka1_1 ka1_2 ka1_3 ka1_4 ka1_5 ka1_6 ka1_7 ka1_8 ka1_9 kx1_0 kx1_1 kx1_2 kx1_3 kx1_4 kx1_5 kx1_6 kx1_7 kx1_8 kx1_9
  revert hcut; generalize wc = wc3; intro hcut
  obtain ⟨hs_, hbl⟩ := hcut
  subst hs_
  have Ewc3_W := Lib.hid (Ewc2_W.out.trans ((Bel.out hbl).mono Ewc2_W.out.size))
  have Ewc3_w4 := Lib.hid (Ewc2_w4.out.trans ((Bel.out hbl).mono Ewc2_w4.out.size))
  have Ewc3_V0 := Lib.hid (Ewc2_V0.out.trans ((Bel.out hbl).mono Ewc2_V0.out.size))
  have Ewc3_w5 := Lib.hid (Ewc2_w5.out.trans ((Bel.out hbl).mono Ewc2_w5.out.size))
  have Ewc3_V1 := Lib.hid (Ewc2_V1.out.trans ((Bel.out hbl).mono Ewc2_V1.out.size))
  have Ewc3_w6 := Lib.hid (Ewc2_w6.out.trans ((Bel.out hbl).mono Ewc2_w6.out.size))
  have Ewc3_V2 := Lib.hid (Ewc2_V2.out.trans ((Bel.out hbl).mono Ewc2_V2.out.size))
  clear hbl
  have ka2_0 := HK2_0.out _ Ewc3_W.out
  have ka2_1 := HK2_1.out _ Ewc3_W.out
  have ka2_2 := HK2_2.out _ Ewc3_W.out
  have ka2_3 := HK2_3.out _ Ewc3_W.out
  have ka2_4 := HK2_4.out _ Ewc3_W.out
  have ka2_5 := HK2_5.out _ Ewc3_W.out
  have ka2_6 := HK2_6.out _ Ewc3_W.out
  have ka2_7 := HK2_7.out _ Ewc3_W.out
  have ka2_8 := HK2_8.out _ Ewc3_W.out
  have ka2_9 := HK2_9.out _ Ewc3_W.out
  have kx2_0 := HX2_0.out _ Ewc3_V2.out
  have kx2_1 := HX2_1.out _ Ewc3_V2.out
  have kx2_2 := HX2_2.out _ Ewc3_V2.out
  have kx2_3 := HX2_3.out _ Ewc3_V2.out
  have kx2_4 := HX2_4.out _ Ewc3_V2.out
  have kx2_5 := HX2_5.out _ Ewc3_V2.out
  have kx2_6 := HX2_6.out _ Ewc3_V2.out
  have kx2_7 := HX2_7.out _ Ewc3_V2.out
  have kx2_8 := HX2_8.out _ Ewc3_V2.out
  have kx2_9 := HX2_9.out _ Ewc3_V2.out
  have hgx : w6.heap.size < wc3.heap.size := Nat.lt_of_lt_of_le HZV2.out Ewc3_V2.out.size
  have hgw : w.heap.size + 1 + 1 < wc3.heap.size := Nat.lt_of_lt_of_le (by have := HZ.out; omega) Ewc3_W.out.size
  have hbd : Bel wc3 wc3.drew := Bel.of (Below.refl _ _).drew
  go_upto_region 22 with fail
  go_cut [75] (fun s75 wx => s75 = .bool false ∧ Bel wc3 wx)
  case first =>
    go_region_held3 (fun U => U.cell? ⟨w6.heap.size, 0, none⟩ = some (.int .i64 iib) ∧ U.cell? ⟨w6.heap.size, 1, none⟩ = some (.int .i64 kkb) ∧ U.cell? ⟨w6.heap.size, 2, none⟩ = some (.int .i64 sab) ∧ U.cell? ⟨w6.heap.size, 3, none⟩ = some (.slice (some ⟨x21, 0, none⟩) nb1 nb1) ∧ U.cell? ⟨w6.heap.size, 4, none⟩ = some (.int .i64 xab) ∧ U.cell? ⟨w6.heap.size, 5, none⟩ = some (.int .i64 yab) ∧ U.cell? ⟨w6.heap.size, 6, none⟩ = some (.int .i64 sbb) ∧ U.cell? ⟨w6.heap.size, 7, none⟩ = some (.slice (some ⟨x22, 0, none⟩) nb2 nb2) ∧ U.cell? ⟨w6.heap.size, 8, none⟩ = some (.int .i64 xbb) ∧ U.cell? ⟨w6.heap.size, 9, none⟩ = some (.int .i64 ybb) ∧ U.cell? ⟨w.heap.size + 1 + 1, 0, none⟩ = some (.int .i64 iib) ∧ U.cell? ⟨w.heap.size + 1 + 1, 1, none⟩ = some (.int .i64 kkb) ∧ U.cell? ⟨w.heap.size + 1 + 1, 2, none⟩ = some (.int .i64 sab) ∧ U.cell? ⟨w.heap.size + 1 + 1, 3, none⟩ = some (.slice Ab1 nb1 cb1) ∧ U.cell? ⟨w.heap.size + 1 + 1, 4, none⟩ = some (.int .i64 xab) ∧ U.cell? ⟨w.heap.size + 1 + 1, 5, none⟩ = some (.int .i64 yab) ∧ U.cell? ⟨w.heap.size + 1 + 1, 6, none⟩ = some (.int .i64 sbb) ∧ U.cell? ⟨w.heap.size + 1 + 1, 7, none⟩ = some (.slice Ab2 nb2 cb2) ∧ U.cell? ⟨w.heap.size + 1 + 1, 8, none⟩ = some (.int .i64 xbb) ∧ U.cell? ⟨w.heap.size + 1 + 1, 9, none⟩ = some (.int .i64 ybb) ∧ Bel wc3 U)
      (first | go_keep | (go_split_ands; (refine ⟨?_, ?_, ?_, ?_, ?_, ?_, ?_, ?_, ?_, ?_, ?_, ?_, ?_, ?_, ?_, ?_, ?_, ?_, ?_, ?_, ?_⟩ <;> first | assumption | exact Bel.step (by assumption) hbt12 | exact Bel.step (by assumption) hbt13 | exact (Bel.at_ (by assumption) hbt12 (by assumption)).trans (by assumption) | exact (Bel.at_ (by assumption) hbt13 (by assumption)).trans (by assumption))))
      (first
        | (go_at_call 16
           go_split_ands
           refine (toSv iib kkb sab xab yab sbb xbb ybb Ab1 nb1 cb1 Ab2 nb2 cb2 b1 b2 _ HNb1.out (HRb1.out _ (Below.trans Ewc3_W.out ((Bel.out (by assumption)).mono Ewc3_W.out.size))) hsmb1 HNb2.out (HRb2.out _ (Below.trans Ewc3_W.out ((Bel.out (by assumption)).mono Ewc3_W.out.size))) hsmb2).mono ?_
           rintro e t12 ⟨y131, y132, rfl, hoy131, hoy132, hgy13, hbt12⟩
           have Sy131 := Lib.hid (Rd.ofOwnK hoy131)
           have Sy132 := Lib.hid (Rd.ofOwnK hoy132)
           clear hoy131 hoy132)
        | (go_at_call 19
           go_split_ands
           refine (eqSv iib kkb sab xab yab sbb xbb ybb x21 y131 nb1 nb1 nb1 x22 y132 nb2 nb2 nb2 b1 b2 t12 HNb1.out hsmb1 (Rx21.out _ (Below.trans Ewc3_w6.out ((Bel.out (by assumption)).mono Ewc3_w6.out.size))) (Sy131.out) HNb2.out hsmb2 (Rx22.out _ (Below.trans Ewc3_w6.out ((Bel.out (by assumption)).mono Ewc3_w6.out.size))) (Sy132.out)).mono ?_
           rintro e t13 ⟨rfl, hbt13⟩))
    all_goals
      go_split_ands
      have hbl : Bel wc3 t13 := by assumption
      go_wp2_with fail
      go_meet
      exact ⟨rfl, hbl⟩
  case rest =>
  clear hbd hgx hgw ka2_0 ka2_1 ka2_2 ka2_3 ka2_4 ka2_5 ka2_6 ka2_7 ka2_8 ka2_9 kx2_0 kx2_1 kx2_2 kx2_3 kx2_4 kx2_5 kx2_6 kx2_7 kx2_8 kx2_9
  revert hcut; generalize wc = wc4; intro hcut
  obtain ⟨hs_, hbl⟩ := hcut
  subst hs_
  have Ewc4_W := Lib.hid (Ewc3_W.out.trans ((Bel.out hbl).mono Ewc3_W.out.size))
  have Ewc4_w4 := Lib.hid (Ewc3_w4.out.trans ((Bel.out hbl).mono Ewc3_w4.out.size))
  have Ewc4_V0 := Lib.hid (Ewc3_V0.out.trans ((Bel.out hbl).mono Ewc3_V0.out.size))
  have Ewc4_w5 := Lib.hid (Ewc3_w5.out.trans ((Bel.out hbl).mono Ewc3_w5.out.size))
  have Ewc4_V1 := Lib.hid (Ewc3_V1.out.trans ((Bel.out hbl).mono Ewc3_V1.out.size))
  have Ewc4_w6 := Lib.hid (Ewc3_w6.out.trans ((Bel.out hbl).mono Ewc3_w6.out.size))
  have Ewc4_V2 := Lib.hid (Ewc3_V2.out.trans ((Bel.out hbl).mono Ewc3_V2.out.size))
  clear hbl
  go_wp2
  go_ret
  exact ⟨rfl, HBW.out.trans (Ewc4_W.out.mono HBW.out.size)⟩


theorem own : ownKnob Try.prog.godebug = none := by kernel_rfl
theorem laidOut : laidOutB Try.prog = true := by kernel_rfl
set_option maxRecDepth 100000 in
theorem lifted (os : Os) (started : os.Started) (H : Type) (enc : TypeId × Value → H) :
    ReturnsInHanded {} Try.checked os 3 .any (Rows.fnExactAreCompatibleSpec.pre6 enc Try.prog Try.f3 Rows.fnExactAreCompatibleRow.domain false) (Rows.fnExactAreCompatibleSpec.post enc Try.prog Try.f3 false true false false) := by
  refine returnsInHanded_of_change_sized (C := Try.checked) own started (by kernel_rfl) Try.func3
    (ChangeSpec.witness6 (enc := enc) (C := Try.checked) false ⟨#[], #[.agg #[.slice none 0 0, .slice none 0 0], .agg #[.int .i64 0, .int .i64 0, .int .i64 0, .slice none 0 0, .int .i64 0, .int .i64 0, .int .i64 0, .slice none 0 0, .int .i64 0, .int .i64 0], .agg #[.int .i64 0, .int .i64 0, .int .i64 0, .slice none 0 0, .int .i64 0, .int .i64 0, .int .i64 0, .slice none 0 0, .int .i64 0, .int .i64 0]], []⟩ 8 (by kernel_rfl) (by kernel_rfl) (by kernel_rfl) (by kernel_rfl)) ?_
  intro W base args ds gs before hval0 hW _ hsz0 _
  clear hsz0
  have hval : ∀ (j : Nat) t v, Try.f3.params[j]? = some t → args[j]? = some v → Value.okWide Try.prog W .any base t v := hval0
  have hW' := hW
  obtain ⟨p, q, hA0, hV, rfl, _, _⟩ := hW
  have hA : DataW.TrodAll enc Try.prog W 0 (fun _ => true) true Try.f3.params.toList args.toList ds p := hA0
  rw [Try.params3] at hA hval
  obtain ⟨v0, vs0, d0, ds0, p0, q0, hargs, rfl, rfl, h0, r0⟩ := trodAll_cons hA
  obtain ⟨v1, vs1, d1, ds1, p1, q1, rfl, rfl, rfl, h1, r1⟩ := trodAll_cons r0
  obtain ⟨v2, vs2, d2, ds2, p2, q2, rfl, rfl, rfl, h2, r2⟩ := trodAll_cons r1
  obtain ⟨rfl, rfl, rfl⟩ := trodAll_nil r2
  obtain rfl : args = #[v0, v1, v2] := by cases args; simp_all
  obtain ⟨rfl, rfl⟩ := trodVars_none hV
  simp only [List.append_nil] at hW'
  have hlt0 : ∀ x ∈ p0, x.block < W.heap.size := fun x hx => by simpa using hW'.lt x (by simp [hx])
  have hlt1 : ∀ x ∈ p1, x.block < W.heap.size := fun x hx => by simpa using hW'.lt x (by simp [hx])
  have hlt2 : ∀ x ∈ p2, x.block < W.heap.size := fun x hx => by simpa using hW'.lt x (by simp [hx])
  have fin : ∀ W' : World, Below W.heap.size W W' → Rows.fnExactAreCompatibleSpec.post enc Try.checked.prog Try.f3 false true false false W #[v0, v1, v2] (.bool true) W' := by
    intro W' hb
    refine ⟨_, _, _, [] ++ [], (p0 ++ (p1 ++ (p2 ++ []))), [], hW', ?_, ?_, rfl, hb.frame _, fun h => by cases h⟩
    · exact trodAll_mk1 (shut_bool Try.underlying4 true)
    · exact trodAll_cons_mk (Below.trod laidOut (by kernel_rfl) (of_decide_eq_true (by kernel_rfl)) h0 hb hlt0) (trodAll_cons_mk (Below.trod laidOut (by kernel_rfl) (of_decide_eq_true (by kernel_rfl)) h1 hb hlt1) (trodAll_cons_mk (Below.trod laidOut (by kernel_rfl) (of_decide_eq_true (by kernel_rfl)) h2 hb hlt2) (trodAll_mk0)))
  clear hW' hV hA0
  obtain ⟨A0, n0, c0, s0, B0, m0, k0, z0, rfl, ⟨ha0, hb0, hc0, hd0⟩, ⟨he0, hf0, hg0, hh0⟩⟩ := open_net Try.underlying25 (by kernel_rfl) (by kernel_rfl) Try.underlying22 Try.underlying9 (by kernel_rfl) Try.underlying23 Try.underlying209 (by kernel_rfl) (by kernel_rfl) rfl (hint_of Try.underlying3 (by decide +kernel)) (hval 0 25 v0 rfl rfl) h0
  obtain ⟨r1_, rfl, ⟨ha1, hb1, hc1⟩, ⟨hd1, he1, hf1⟩⟩ := open_service (hval 1 32 v1 rfl rfl) h1
  obtain ⟨r2_, rfl, ⟨ha2, hb2, hc2⟩, ⟨hd2, he2, hf2⟩⟩ := open_service (hval 2 32 v2 rfl rfl) h2
  exact (walk A0 n0 c0 s0 B0 m0 k0 z0 r1_.i r1_.k r1_.s1 r1_.A r1_.n r1_.c r1_.zs r1_.x1 r1_.y1 r1_.s2 r1_.A2 r1_.m r1_.c2 r1_.us r1_.x2 r1_.y2 r2_.i r2_.k r2_.s1 r2_.A r2_.n r2_.c r2_.zs r2_.x1 r2_.y1 r2_.s2 r2_.A2 r2_.m r2_.c2 r2_.us r2_.x2 r2_.y2 W ha0 hb0 hc0 hd0 he0 hf0 hg0 hh0 ha1 hb1 hc1 hd1 he1 hf1 ha2 hb2 hc2 hd2 he2 hf2).mono fun e W' ⟨he, hb⟩ => ⟨_, he, fin W' hb⟩

theorem closed : joinedFacts Try.prog 3 Try.f3 Rows.fnExactAreCompatibleSpec Rows.fnExactAreCompatibleRow = true := by
  unfold joinedFacts
  rw [jn_mk, jn_li, jn_en]
  kernel_rfl
theorem over : Rows.fnExactAreCompatibleRow.holds Try.pinned (OpenSpec.ofChange Rows.fnExactAreCompatibleSpec) :=
  OpenClaim.holds_of_wide 3 Try.f3 rfl rfl rfl rfl rfl rfl rfl ⟨rfl, rfl, rfl, rfl, rfl⟩ rfl rfl rfl rfl rfl (by kernel_rfl) Try.func3 closed
    (of_decide_eq_true (by kernel_rfl)) (by unfold Func.isWrapper; first | (rw [if_pos (by decide +kernel)]; kernel_rfl) | (rw [if_neg (by decide +kernel)]; exact ⟨rfl, rfl⟩))
    (fun os started H enc _ => lifted os started H enc)

/-- THE STATEMENT -/
theorem proved : Rows.FnExactAreCompatibleSaid :=
  over
end Go.Proofs.Ytlgkjidginibdaa.fnExactAreCompatible
