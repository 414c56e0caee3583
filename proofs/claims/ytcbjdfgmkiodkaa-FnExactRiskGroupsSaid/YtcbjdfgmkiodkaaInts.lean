/- Contracts of the law's helpers over a slice of ints (copy, compare). No condition but those typed. -/
import Derived.Test.YtcbjdfgmkiodkaaFill
import Derived.WalkKit
import Derived.ProofKit
import Derived.LoopTactic
import Derived.Deep.QuietTactic
import Derived.BigQuiet
import Derived.WalkLawsBesides
namespace Go.Proofs.Ytcbjdfgmkiodkaa
open Go.ChangeShapes Go.WideShapes Go.ChangeAt Go.RowKit
theorem Try.inf_int : (Try.prog.info? 3).map (fun i => (i.zero, i.size, i.bytes)) = some (some (.int .i64 0), 1, 8) := by kernel_rfl

theorem iset_fill (zs : List Int) (k n : Nat) (hn : zs.length = n) (hk : k < n) :
    ((zs.take k).map (Value.int .i64) ++ List.replicate (n - k) z0).set k (.int .i64 (zs[k]'(by omega))) =
      (zs.take (k + 1)).map (Value.int .i64) ++ List.replicate (n - (k + 1)) z0 := by
  have hl : ((zs.take k).map (Value.int .i64)).length = k := by simp; omega
  have e : n - k = (n - (k + 1)) + 1 := by omega
  rw [List.set_append_right _ _ (by omega), hl, Nat.sub_self, e, List.replicate_succ, List.set_cons_zero, List.take_succ_eq_append_getElem (by omega)]
  simp only [List.map_append, List.map_cons, List.map_nil, List.append_assoc, List.cons_append, List.nil_append]
theorem iget_fill (zs : List Int) (k n : Nat) (hn : zs.length = n) (hk : k < n) :
    ((zs.take k).map (Value.int .i64) ++ List.replicate (n - k) z0)[k]? = some z0 := by
  have hl : ((zs.take k).map (Value.int .i64)).length = k := by simp; omega
  rw [List.getElem?_append_right (by omega), List.getElem?_replicate, if_pos (by omega)]
theorem intGet (zs : List Int) (k : Nat) (h : k < zs.length) : (zs.map (Value.int .i64))[k]'(by simpa using h) = .int .i64 zs[k] := by simp
/-- at a block. -/
theorem Rd.intc {w : World} {B b o : Nat} {zs : List Int} (h : Rd w B (some ⟨b, o, none⟩) (zs.map (Value.int .i64))) {k : Nat} (hk : k < zs.length) : b < B ∧ w.cell? ⟨b, o + k, none⟩ = some (.int .i64 zs[k]) := by
  obtain ⟨ad, e, hb, hcell⟩ := h.got (k := k) (by simpa using hk)
  injection e with e; subst e
  have ea : (⟨b, o, none⟩ : Addr).add k = ⟨b, o + k, none⟩ := by unfold Addr.add; by_cases h : k = 0 <;> simp [h]
  rw [ea, intGet zs k hk] at hcell
  exact ⟨hb, hcell⟩

set_option maxHeartbeats 400000 in
theorem toIntS (A : Option Addr) (n c : Nat) (zs : List Int) (w : World) (hn : zs.length = n) (hr : Rd w w.heap.size A (zs.map (Value.int .i64))) (hsz : n ≤ 1048576) :
    Calls Try.prog 51 #[.slice A n c] w fun e w' => ∃ g, w.heap.size ≤ g ∧ e = .returned (.slice (some ⟨g, 0, none⟩) n n) ∧
      w'.ownsRow w.heap.size 3 1 (.slice (some ⟨g, 0, none⟩) n n) n (zs.map (Value.int .i64)) ∧ Below w.heap.size w w' := by
  suffices h : Calls Try.prog 51 #[.slice A n c] w fun e w' => e = .returned (.slice (some ⟨w.heap.size, 0, none⟩) n n) ∧
      w'.ownsRow w.heap.size 3 1 (.slice (some ⟨w.heap.size, 0, none⟩) n n) n (zs.map (Value.int .i64)) ∧ Below w.heap.size w w' from h.mono fun _ _ h => ⟨_, Nat.le_refl _, h⟩
  obtain ⟨i0, hi, hz0, hz1, hz2⟩ := info_parts Try.inf_int
  have HN := Lib.hid hn; clear hn
  go_enter Try.func51, Try.ntmps51
  go_wp2_with (at_make; refine wpList_make_full _ rfl _ _ 39 rfl w.heap.size 3 i0 (.int .i64 0) 1 Try.underlying39 hi hz0 hz1 .i64 .i64 n n n rfl rfl rfl rfl (by rw [hz2]; omega) (by unfold maxLen; omega) (Nat.le_refl _) ?_)
  intro w1 hown hgrow
  have hb1 : Below w.heap.size w w1 := (Below.refl _ _).grown hgrow (Nat.le_refl _) (fun k h => by cases h)
  clear hgrow
  rw [toList_madeCells_one] at hown
  clear hi hz0 hz1 hz2
  go_wp2
  go_loopw [4] (fun i wr => ∃ k : Nat, k ≤ n ∧ i = .int .i64 k ∧ wr.ownsRow w.heap.size 3 1 (.slice (some ⟨w.heap.size, 0, none⟩) n n) n ((zs.take k).map (Value.int .i64) ++ List.replicate (n - k) z0) ∧ Below w.heap.size w wr) (fun i _ => n - (intOf i).toNat)
  case atStart => exact ⟨0, Nat.zero_le _, rfl, by simpa using hown, hb1⟩
  case round =>
    clear hown hb1
    obtain ⟨k, hk, rfl, hown, hb⟩ := hrel
    by_cases hlt : k < n
    · have hks : k < zs.length := by have := HN.out; omega
      obtain ⟨ad, rfl, hbl, hcell⟩ := hr.got (k := k) (by simpa using hks)
      rw [intGet zs k hks] at hcell
      rw [← hb.cell (by rw [addBlock]; exact hbl)] at hcell
      have hold := hown.cellAt k (by omega)
      rw [iget_fill zs k n HN.out hlt] at hold
      have hfz := hown.frozenAt k
      have hst := hown.stored k (.int .i64 (zs[k]'hks))
      rw [iset_fill zs k n HN.out hlt] at hst
      have HST := Lib.hid hst.1; clear hst
      clear hown
      go_wp2
      go_roundw
      case rel => exact ⟨k + 1, by omega, by go_num, HST.out, hb.setCell (Nat.le_refl _) _⟩
      case measure => simp [intOf]; omega
    · have hkn : k = n := by omega
      subst hkn
      have e : zs.take k = zs := List.take_of_length_le (by have := HN.out; omega)
      rw [e, Nat.sub_self, List.replicate_zero, List.append_nil] at hown
      clear e
      go_wp2
      go_ret
      exact ⟨rfl, hown, hb⟩

set_option maxHeartbeats 400000 in
theorem eqIntS (g g' n c c' : Nat) (zs : List Int) (w : World) (hn : zs.length = n) (hr : Rd w w.heap.size (some ⟨g, 0, none⟩) (zs.map (Value.int .i64))) (hr' : Rd w w.heap.size (some ⟨g', 0, none⟩) (zs.map (Value.int .i64))) (hsz : n ≤ 1048576) :
    Calls Try.prog 41 #[.slice (some ⟨g, 0, none⟩) n c, .slice (some ⟨g', 0, none⟩) n c'] w fun e w' => e = .returned (.bool true) ∧ Below w.heap.size w w' := by
  have HN := Lib.hid hn; clear hn
  go_enter Try.func41, Try.ntmps41
  go_wp2
  go_loopw [5] (fun i wr => ∃ k : Nat, k ≤ n ∧ i = .int .i64 k ∧ Below w.heap.size w wr) (fun i _ => n - (intOf i).toNat)
  case atStart => exact ⟨0, Nat.zero_le _, rfl, Below.refl _ _⟩
  case round =>
    obtain ⟨k, hk, rfl, hb⟩ := hrel
    by_cases hlt : k < n
    · have hks : k < zs.length := by have := HN.out; omega
      obtain ⟨_, hcell⟩ := (hr.over hb).intc hks
      obtain ⟨_, hcell'⟩ := (hr'.over hb).intc hks
      rw [Nat.zero_add] at hcell hcell'
      obtain ⟨z, hz⟩ : ∃ z, zs[k]'hks = z := ⟨_, rfl⟩
      rw [hz] at hcell hcell'; clear hz
      go_wp2
      go_quiet (fail)
      go_wp2
      go_roundw
      case rel => exact ⟨k + 1, by omega, by go_num, drewN_below hb _⟩
      case measure => simp [intOf]; omega
    · go_wp2
      go_ret
      exact ⟨rfl, hb⟩
end Go.Proofs.Ytcbjdfgmkiodkaa
