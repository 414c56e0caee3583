/- Sets of fibers asked for; networks that stay connected: contracts of spec.l6Set, impl.isValidSet. No condition but those typed. -/
import Derived.Test.YtbnfogedmjjiaaaAvP
import Derived.Test.YtbnfogedmjjiaaaGB
import Derived.Test.YtbnfogedmjjiaaaSplit6
import Derived.Test.YtbnfogedmjjiaaaGA
import Derived.Test.YtbnfogedmjjiaaaOutS
import Derived.Test.YtbnfogedmjjiaaaTwo
namespace Go.Proofs.Ytbnfogedmjjiaaa
open Go.ChangeShapes Go.WideShapes Go.ChangeAt Go.RowKit

def set6P (ss : List ByteArray) (fs : List Q4) (zs : List Int) : Prop := netP ss fs ∧ risB zs (fs.length : Int) = true
theorem set6_bd {ss : List ByteArray} {fs : List Q4} {zs : List Int} (h : set6P ss fs zs) : ∀ k, k < zs.length → 0 ≤ nth zs k ∧ nth zs k < 20 := fun k hk => by
  have := ris_all h.2 k hk; have := h.1.2.1; omega
set_option maxRecDepth 100000 in
set_option maxHeartbeats 8000000 in
theorem set6_ {g1 g2 n1 n2 c1 c2 : Nat} {ss : List ByteArray} {fs : List Q4} {w : World} (h : NetAt g1 g2 n1 n2 c1 c2 ss fs w) {A : Option Addr} {n c : Nat} {zs : List Int} (hn : zs.length = n) (hr : Rd w w.heap.size A (zs.map (Value.int .i64))) (hx : n ≤ 1048576) :
    Calls Try.prog 109 #[.agg #[.slice (some ⟨g1, 0, none⟩) n1 c1, .slice (some ⟨g2, 0, none⟩) n2 c2], .slice A n c] w (RetP (.bool (pb (set6P ss fs zs))) w) := by
  have HNT := Lib.hid h; have HN := Lib.hid hn; have HR := Lib.hid hr
  have HL2 := Lib.hid h.ln2
  have hs2 := h.sm2
  clear h hn hr
  obtain ⟨RB, hRB⟩ : ∃ r, pb (set6P ss fs zs) = r := ⟨_, rfl⟩
  have HNO : Hid (¬ set6P ss fs zs → false = RB) := Lib.hid (fun e => by rw [← hRB, pb_false e])
  have HYES : Hid (set6P ss fs zs → true = RB) := Lib.hid (fun e => by rw [← hRB, pb_true e])
  rw [hRB]
  clear hRB
  go_enter Try.func109, Try.ntmps109
  go_wp2_with fail
  obtain ⟨W0, hW0⟩ : ∃ W0, (w.alloc (Obj.cells #[.slice (some ⟨g1, 0, none⟩) n1 c1, .slice (some ⟨g2, 0, none⟩) n2 c2] 34)) = W0 := ⟨_, rfl⟩
  have hb0 : Below w.heap.size w W0 := by rw [← hW0]; exact (Below.refl _ _).alloc (Nat.le_refl _) _
  have hk0 : W0.cell? ⟨w.heap.size, 0, none⟩ = some (.slice (some ⟨g1, 0, none⟩) n1 c1) := by rw [← hW0]; simp [go_sem]
  have hk1 : W0.cell? ⟨w.heap.size, 1, none⟩ = some (.slice (some ⟨g2, 0, none⟩) n2 c2) := by rw [← hW0]; simp [go_sem]
  have hz0 : w.heap.size < W0.heap.size := by rw [← hW0]; simp
  have HB0 := Lib.hid hb0; have HK0 := Lib.hid hk0; have HK1 := Lib.hid hk1; have HZB := Lib.hid hz0
  rw [hW0]
  clear hW0 hb0 hk0 hk1 hz0
  have CV := Lib.hid (specNet_ (HNT.out.moved HB0.out))
  obtain ⟨V, hV⟩ : ∃ r, pb (netP ss fs) = r := ⟨_, rfl⟩
  rw [hV] at CV
  have HVB := Lib.hid hV
  clear hV
  refine CV.out.mono ?_
  rintro e w1 ⟨rfl, hb1⟩
  have HB1 := Lib.hid (HB0.out.trans (hb1.mono HB0.out.size))
  have k0 := (hb1.cell (p := ⟨w.heap.size, 0, none⟩) (by show w.heap.size < _; have := HZB.out; omega)).trans HK0.out
  have k1 := (hb1.cell (p := ⟨w.heap.size, 1, none⟩) (by show w.heap.size < _; have := HZB.out; omega)).trans HK1.out
  have hgk : w.heap.size < w1.heap.size := by have := HZB.out; have := hb1.size; omega
  clear hb1
  cases V
  case false =>
    have HE := Lib.hid (HNO.out (fun hp => of_npb HVB.out hp.1))
    clear k0 k1 hgk
    go_wp2
    go_ret
    exact ⟨retb HE.out, HB1.out⟩
  case true =>
  have e7 : IntKind.i64.wrap ((n2 : Int) - 1) = (n2 : Int) - 1 := IntWalk.i64_in _ (by omega)
  have CR := Lib.hid (rising_ A n c zs ((n2 : Int) - 1) w1 HN.out hx (HR.out.moved HB1.out))
  rw [show (n2 : Int) - 1 + 1 = n2 by omega] at CR
  obtain ⟨b, hb⟩ : ∃ b, risB zs (n2 : Int) = b := ⟨_, rfl⟩
  rw [hb] at CR
  have HF : Hid (b = RB) := Lib.hid (by
    cases b
    · exact HNO.out (fun hp => by have h9 := hp.2; rw [HL2.out, hb] at h9; cases h9)
    · exact HYES.out ⟨of_pb HVB.out, by rw [HL2.out]; exact hb⟩)
  clear hb
  go_wp2_with fail
  clear k0 k1 hgk
  refine CR.out.mono ?_
  rintro e w2 ⟨rfl, hb2⟩
  have HB2 := Lib.hid (HB1.out.trans (hb2.mono HB1.out.size))
  clear hb2
  go_wp2
  go_ret
  exact ⟨retb HF.out, HB2.out⟩
set_option maxRecDepth 100000 in
set_option maxHeartbeats 8000000 in
theorem isVs_ {g1 g2 n1 n2 c1 c2 : Nat} {ss : List ByteArray} {fs : List Q4} {w : World} (h : NetAt g1 g2 n1 n2 c1 c2 ss fs w) {A : Option Addr} {n c : Nat} {zs : List Int} (hn : zs.length = n) (hr : Rd w w.heap.size A (zs.map (Value.int .i64))) (hx : n ≤ 1048576) :
    Calls Try.prog 112 #[.agg #[.slice (some ⟨g1, 0, none⟩) n1 c1, .slice (some ⟨g2, 0, none⟩) n2 c2], .slice A n c] w (RetP (.bool (pb (set6P ss fs zs))) w) := by
  have HNT := Lib.hid h; have HN := Lib.hid hn; have HR := Lib.hid hr
  have HL2 := Lib.hid h.ln2
  have hs2 := h.sm2
  clear h hn hr
  obtain ⟨RB, hRB⟩ : ∃ r, pb (set6P ss fs zs) = r := ⟨_, rfl⟩
  have HNO : Hid (¬ set6P ss fs zs → false = RB) := Lib.hid (fun e => by rw [← hRB, pb_false e])
  have HYES : Hid (set6P ss fs zs → true = RB) := Lib.hid (fun e => by rw [← hRB, pb_true e])
  rw [hRB]
  clear hRB
  go_enter Try.func112, Try.ntmps112
  go_wp2_with fail
  obtain ⟨W0, hW0⟩ : ∃ W0, (w.alloc (Obj.cells #[.slice (some ⟨g1, 0, none⟩) n1 c1, .slice (some ⟨g2, 0, none⟩) n2 c2] 34)) = W0 := ⟨_, rfl⟩
  have hb0 : Below w.heap.size w W0 := by rw [← hW0]; exact (Below.refl _ _).alloc (Nat.le_refl _) _
  have hk0 : W0.cell? ⟨w.heap.size, 0, none⟩ = some (.slice (some ⟨g1, 0, none⟩) n1 c1) := by rw [← hW0]; simp [go_sem]
  have hk1 : W0.cell? ⟨w.heap.size, 1, none⟩ = some (.slice (some ⟨g2, 0, none⟩) n2 c2) := by rw [← hW0]; simp [go_sem]
  have hz0 : w.heap.size < W0.heap.size := by rw [← hW0]; simp
  have HB0 := Lib.hid hb0; have HK0 := Lib.hid hk0; have HK1 := Lib.hid hk1; have HZB := Lib.hid hz0
  rw [hW0]
  clear hW0 hb0 hk0 hk1 hz0
  have CV := Lib.hid (implNet_ (HNT.out.moved HB0.out))
  obtain ⟨V, hV⟩ : ∃ r, pb (netP ss fs) = r := ⟨_, rfl⟩
  rw [hV] at CV
  have HVB := Lib.hid hV
  clear hV
  refine CV.out.mono ?_
  rintro e w1 ⟨rfl, hb1⟩
  have HB1 := Lib.hid (HB0.out.trans (hb1.mono HB0.out.size))
  have k0 := (hb1.cell (p := ⟨w.heap.size, 0, none⟩) (by show w.heap.size < _; have := HZB.out; omega)).trans HK0.out
  have k1 := (hb1.cell (p := ⟨w.heap.size, 1, none⟩) (by show w.heap.size < _; have := HZB.out; omega)).trans HK1.out
  have hgk : w.heap.size < w1.heap.size := by have := HZB.out; have := hb1.size; omega
  clear hb1
  cases V
  case false =>
    have HE := Lib.hid (HNO.out (fun hp => of_npb HVB.out hp.1))
    clear k0 k1 hgk
    go_wp2
    go_ret
    exact ⟨retb HE.out, HB1.out⟩
  case true =>
  have CR := Lib.hid (isSet_ A n c zs (n2 : Int) w1 HN.out hx (HR.out.moved HB1.out))
  obtain ⟨b, hb⟩ : ∃ b, risB zs (n2 : Int) = b := ⟨_, rfl⟩
  rw [hb] at CR
  have HF : Hid (b = RB) := Lib.hid (by
    cases b
    · exact HNO.out (fun hp => by have h9 := hp.2; rw [HL2.out, hb] at h9; cases h9)
    · exact HYES.out ⟨of_pb HVB.out, by rw [HL2.out]; exact hb⟩)
  clear hb
  go_wp2_with fail
  clear k0 k1 hgk
  refine CR.out.mono ?_
  rintro e w2 ⟨rfl, rfl⟩
  go_wp2
  go_ret
  exact ⟨retb HF.out, HB1.out⟩
end Go.Proofs.Ytbnfogedmjjiaaa
