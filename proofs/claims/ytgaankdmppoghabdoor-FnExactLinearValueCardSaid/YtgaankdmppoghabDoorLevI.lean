/- Contracts: spans and levels: the implementation's tests; SpanLoss, MostSpans. No condition but those typed. -/
import Derived.Test.YtgaankdmppoghabDoorLevS
import Derived.Test.YtgaankdmppoghabDoorInts
namespace Go.Proofs.YtgaankdmppoghabDoor
open Go.ChangeShapes Go.WideShapes Go.ChangeAt Go.RowKit

theorem rd_new {W : World} {n : Nat} (hn : W.heap.size = n) (xs : List Value) (T : TypeId) : Rd (W.alloc (.cells xs.toArray T)) (W.alloc (.cells xs.toArray T)).heap.size (some ⟨n, 0, none⟩) xs := by
  subst hn
  intro k u hu
  refine ⟨_, rfl, by simp, ?_⟩
  have e : (⟨W.heap.size, 0, none⟩ : Addr).add k = ⟨W.heap.size, k, none⟩ := by unfold Addr.add; by_cases h : k = 0 <;> simp [h]
  rw [e]
  have := cell_of_row (W.alloc (.cells xs.toArray T)) W.heap.size k xs.toArray T (0, 0) (heap_alloc_new W _)
  rw [this]; simpa using hu
theorem rd_q3 {W : World} {n : Nat} (hn : W.heap.size = n) (a b c : Int) (T : TypeId) : Rd (W.alloc (.cells #[.int .i64 a, .int .i64 b, .int .i64 c] T)) (W.alloc (.cells #[.int .i64 a, .int .i64 b, .int .i64 c] T)).heap.size (some ⟨n, 0, none⟩) ([(⟨a, b, c⟩ : Q3)].flatMap Q3.cells) := rd_new hn [.int .i64 a, .int .i64 b, .int .i64 c] T
theorem rd_q4 {W : World} {n : Nat} (hn : W.heap.size = n) (a b c d : Int) (T : TypeId) : Rd (W.alloc (.cells #[.int .i64 a, .int .i64 b, .int .i64 c, .int .i64 d] T)) (W.alloc (.cells #[.int .i64 a, .int .i64 b, .int .i64 c, .int .i64 d] T)).heap.size (some ⟨n, 0, none⟩) ([(⟨a, b, c, d⟩ : Q4)].flatMap Q4.cells) := rd_new hn [.int .i64 a, .int .i64 b, .int .i64 c, .int .i64 d] T
theorem rd_i1 {W : World} {n : Nat} (hn : W.heap.size = n) (a : Int) (T : TypeId) : Rd (W.alloc (.cells #[.int .i64 a] T)) (W.alloc (.cells #[.int .i64 a] T)).heap.size (some ⟨n, 0, none⟩) ([a].map (Value.int .i64)) := rd_new hn [.int .i64 a] T
theorem rd_i2 {W : World} {n : Nat} (hn : W.heap.size = n) (a b : Int) (T : TypeId) : Rd (W.alloc (.cells #[.int .i64 a, .int .i64 b] T)) (W.alloc (.cells #[.int .i64 a, .int .i64 b] T)).heap.size (some ⟨n, 0, none⟩) ([a, b].map (Value.int .i64)) := rd_new hn [.int .i64 a, .int .i64 b] T

theorem iLevels (g n c : Nat) (zs : List Int) (w : World) (hn : zs.length = n) (hs : n ≤ 1048576) (hr : Rd w w.heap.size (some ⟨g, 0, none⟩) (zs.map (Value.int .i64))) :
    Calls Tryd.prog 42 #[.slice (some ⟨g, 0, none⟩) n c] w (RetV (.bool (zs.all levB)) w) := by
  have HN := Lib.hid hn; clear hn
  go_enter Tryd.func42, Tryd.ntmps42
  go_wp2
  go_loopw [7] (fun i wr => ∃ k : Nat, k ≤ n ∧ i = .int .i64 k ∧ Hid ((zs.take k).all levB = true) ∧ Below w.heap.size w wr) (fun i _ => n - (intOf i).toNat)
  case atStart => exact ⟨0, Nat.zero_le _, rfl, Lib.hid all_zero, Below.refl _ _⟩
  case round =>
    obtain ⟨k, hk, rfl, HA, hb⟩ := hrel
    by_cases hlt : k < n
    case neg =>
      have HQ : Hid (zs.all levB = true) := Lib.hid (all_end (n := k) (by have := HN.out; omega) HA.out)
      have hkn : ¬ (k : Int) < n := by omega
      clear hlt
      go_wp2
      go_ret
      exact retB HQ.out hb
    case pos =>
    have hks : k < zs.length := by have := HN.out; omega
    obtain ⟨_, f0⟩ := (hr.over hb).intc hks
    rw [Nat.zero_add] at f0
    obtain ⟨z, hz⟩ : ∃ z, zs[k]'hks = z := ⟨_, rfl⟩
    rw [hz] at f0
    have HS : Hid (levB z = true → (zs.take (k + 1)).all levB = true) := Lib.hid fun h => all_snoc hks HA.out (by rw [hz]; exact h)
    have HF : Hid (levB z = false → zs.all levB = false) := Lib.hid fun h => (all_no hks (by rw [hz]; exact h))
    clear hz
    go_wp2
    all_goals first
      | (go_ret; exact retB (HF.out (inB_no (by omega))) hb)
      | (go_roundw
         case rel => exact ⟨k + 1, by omega, by go_num, Lib.hid (HS.out (inB_mk (by omega) (by omega))), hb⟩
         case measure => simp [intOf]; omega)

def slossR (q : Q3) : Value := .tuple #[.int .i64 (if spB q then lossI q else 0), .bool (spB q)]
end Go.Proofs.YtgaankdmppoghabDoor
