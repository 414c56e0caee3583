/- Routes: their nodes: contracts of the specification and of the implementation. No condition but those typed. -/
import Derived.Test.YtlankoameeacpaaWk6
namespace Go.Proofs.Ytlankoameeacpaa
open Go.ChangeShapes Go.WideShapes Go.ChangeAt Go.RowKit

/-- an int list of the call's own. -/
def IntsO (zs : List Int) (w : World) (e : Ending) (w' : World) : Prop :=
  ∃ (A : Option Addr) (N c : Nat), e = .returned (.slice A N c) ∧ Hid (N = zs.length) ∧ w'.ownsRow w.heap.size 3 1 (.slice A N c) N (zs.map (Value.int .i64)) ∧ Below w.heap.size w w'
noncomputable def rnodL (ss : List ByteArray) (fs : List Q4) (st : Int) (fl : List Int) : List Int := if routeB ss fs st fl then ((routeN ss.length fs st fl).getD []).reverse else []
theorem rnod_no {ss : List ByteArray} {fs : List Q4} {st : Int} {fl : List Int} (h : routeB ss fs st fl = false) : rnodL ss fs st fl = [] := by unfold rnodL; rw [h]; rfl
theorem rnod_yes {ss : List ByteArray} {fs : List Q4} {st : Int} {fl vs : List Int} (h : routeB ss fs st fl = true) (hv : routeN ss.length fs st fl = some vs) : rnodL ss fs st fl = vs.reverse := by
  unfold rnodL; rw [h, hv]; rfl
theorem rnod_len (ss : List ByteArray) (fs : List Q4) (st : Int) (fl : List Int) : (rnodL ss fs st fl).length ≤ fl.length + 1 := by
  cases h : routeB ss fs st fl with
  | false => rw [rnod_no h]; simp
  | true =>
    obtain ⟨_, vs, hv⟩ := routeB_yes h
    rw [rnod_yes h hv, List.length_reverse, routeN_len hv]
    exact Nat.le_refl _
theorem rnod_bd {ss : List ByteArray} {fs : List Q4} {st : Int} {fl : List Int} (h : ss.length + fl.length ≤ 1048576) : (rnodL ss fs st fl).length ≤ 1048576 := by
  cases hb : routeB ss fs st fl with
  | false => rw [rnod_no hb]; simp
  | true =>
    have h1 := rnod_len ss fs st fl
    have h2 := (routeB_yes hb).1.1.1
    omega
theorem ints_nil (w : World) (b : Bool) : IntsP [] b w (.returned (.tuple #[.slice none 0 0, .bool b])) w := ⟨none, 0, 0, rfl, Lib.hid rfl, World.ownsRow_nil _ _ _ _, Below.refl _ _⟩
theorem ints_nilB {w w' : World} (b : Bool) (hb : Below w.heap.size w w') : IntsP [] b w (.returned (.tuple #[.slice none 0 0, .bool b])) w' := ⟨none, 0, 0, rfl, Lib.hid rfl, World.ownsRow_nil _ _ _ _, hb⟩

set_option maxRecDepth 100000 in
set_option maxHeartbeats 4000000 in
theorem l4Nodes_ {g1 g2 n1 n2 c1 c2 : Nat} {ss : List ByteArray} {fs : List Q4} {w : World} (h : NetAt g1 g2 n1 n2 c1 c2 ss fs w) (hv : netP ss fs) (st : Int)
    {A : Option Addr} {n c : Nat} {fl : List Int} (hn : fl.length = n) (hr : Rd w w.heap.size A (fl.map (Value.int .i64))) (hx : n ≤ 1048576) {vs : List Int} (hvs : routeN n1 fs st fl = some vs) :
    Calls Try.prog 109 #[.agg #[.slice (some ⟨g1, 0, none⟩) n1 c1, .slice (some ⟨g2, 0, none⟩) n2 c2], .agg #[.int .i64 st, .slice A n c]] w (IntsO vs.reverse w) := by
  have HN := Lib.hid hn; have HNT := Lib.hid h; have HR := Lib.hid hr; have HV := Lib.hid hv; have HVS := Lib.hid hvs
  clear hn h hr hv hvs
  go_enter Try.func109, Try.ntmps109
  go_wp2_with fail
  obtain ⟨W0, hW0⟩ : ∃ W0, (w.alloc (Obj.cells #[.slice (some ⟨g1, 0, none⟩) n1 c1, .slice (some ⟨g2, 0, none⟩) n2 c2] 42)).alloc (Obj.cells #[.int .i64 st, .slice A n c] 73) = W0 := ⟨_, rfl⟩
  have hb0 : Below w.heap.size w W0 := by rw [← hW0]; exact ((Below.refl _ _).alloc (Nat.le_refl _) _).alloc (by simp) _
  have k0 : W0.cell? ⟨w.heap.size, 0, none⟩ = some (.slice (some ⟨g1, 0, none⟩) n1 c1) := by rw [← hW0]; simp [go_sem]
  have k1 : W0.cell? ⟨w.heap.size, 1, none⟩ = some (.slice (some ⟨g2, 0, none⟩) n2 c2) := by rw [← hW0]; simp [go_sem]
  have k2 : W0.cell? ⟨w.heap.size + 1, 0, none⟩ = some (.int .i64 st) := by rw [← hW0]; simp [go_sem]
  have k3 : W0.cell? ⟨w.heap.size + 1, 1, none⟩ = some (.slice A n c) := by rw [← hW0]; simp [go_sem]
  have hz0 : w.heap.size + 1 < W0.heap.size := by rw [← hW0]; simp
  have HB0 := Lib.hid hb0; have HK0 := Lib.hid k0; have HK1 := Lib.hid k1; have HK2 := Lib.hid k2; have HK3 := Lib.hid k3; have HZ0 := Lib.hid hz0
  rw [hW0]
  clear hW0 hb0 k0 k1 k2 k3 hz0
  refine (l4Walk_ (c := c) (HNT.out.moved HB0.out) HV.out st HN.out (HR.out.moved HB0.out) hx).mono ?_
  rintro e w1 ⟨hb1, B, N, cc, h2⟩
  have HB1 := Lib.hid (HB0.out.trans (hb1.mono HB0.out.size))
  have HZS := Lib.hid HB0.out.size
  clear hb1
  rcases h2 with ⟨hs, _⟩ | ⟨us, hs, rfl, hN, ho⟩
  · rw [HVS.out] at hs
    exact absurd hs (by simp)
  · rw [HVS.out] at hs
    injection hs with hs
    subst hs
    have HO := Lib.hid (own_base ho (HZS.out))
    have HNN : Hid (N = vs.reverse.length) := Lib.hid (by rw [List.length_reverse]; exact hN)
    clear ho hN
    go_wp2
    go_ret
    exact ⟨B, N, cc, rfl, HNN, HO.out, HB1.out⟩

theorem own_heapW {w w' : World} {B E s n : Nat} {v : Value} {xs : List Value} (e : w'.heap = w.heap) (h : w.ownsRow B E s v n xs) : w'.ownsRow B E s v n xs := by
  refine ⟨h.1, ?_⟩
  rw [e]
  exact h.2
theorem rep_set (m : Nat) (v : Value) (l : List Value) (z : Value) : (List.replicate (m + 1) z ++ l).set m v = List.replicate m z ++ v :: l := by
  rw [List.set_append_left _ _ (by simp), List.replicate_succ', List.set_append_right _ _ (by simp)]
  simp
end Go.Proofs.Ytlankoameeacpaa
