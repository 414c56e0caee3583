/- Lists with an element in common, and the risk groups that two routes have in common: contracts of spec.l7Share, spec.CommonRisks. No condition but those typed. -/
import Derived.Test.YtkpendpjdemknaaTwo
import Derived.Test.YtkpendpjdemknaaGB
namespace Go.Proofs.Ytkpendpjdemknaa
open Go.ChangeShapes Go.WideShapes Go.ChangeAt Go.RowKit

noncomputable def shB (k0 : Nat) (xs ys : List Int) : Bool := pb (∃ j, k0 ≤ j ∧ j + k0 < xs.length ∧ nth xs j ∈ ys)
theorem sh_any (xs ys : List Int) : shB 0 xs ys = (ys.any fun f => decide (f ∈ xs)) := by
  unfold shB
  by_cases h : ∃ j, 0 ≤ j ∧ j + 0 < xs.length ∧ nth xs j ∈ ys
  · rw [pb_true h]
    obtain ⟨j, _, hj, hm⟩ := h
    exact (List.any_eq_true.2 ⟨_, hm, decide_eq_true (by rw [← nth_eq (by omega)]; exact List.getElem_mem _)⟩).symm
  · rw [pb_false h]
    symm
    rw [List.any_eq_false]
    intro f hf hc
    obtain ⟨j, hj, e⟩ := mem_nth.1 (of_decide_eq_true hc)
    exact h ⟨j, Nat.zero_le _, by omega, by rw [e]; exact hf⟩
set_option maxRecDepth 100000 in
set_option maxHeartbeats 2000000 in
theorem share_ (A : Option Addr) (n c : Nat) (xs : List Int) (B : Option Addr) (m d : Nat) (ys : List Int) (k0 : Nat) (hk0 : k0 ≤ 10) (w : World) (hn : xs.length = n) (hr : Rd w w.heap.size A (xs.map (Value.int .i64))) (hs : n ≤ 1048576) (hm : ys.length = m) (hr2 : Rd w w.heap.size B (ys.map (Value.int .i64))) (hs2 : m ≤ 1048576) :
    Calls Try.prog 143 #[.slice A n c, .slice B m d, .int .i64 (k0 : Int)] w fun e w' => e = .returned (.bool (shB k0 xs ys)) ∧ w = w' := by
  have HN := Lib.hid hn; have HR := Lib.hid hr
  have CH : Hid (∀ x : Int, Calls Try.prog 161 #[.slice B m d, .int .i64 x] w fun e w' => e = .returned (.bool (decide (x ∈ ys))) ∧ w = w') := Lib.hid (fun x => has_ B m d ys x w hm hr2 (by omega))
  have HYES : Hid (∀ j, k0 ≤ j → j + k0 < n → nth xs j ∈ ys → shB k0 xs ys = true) := Lib.hid (fun j h1 h2 h3 => by unfold shB; exact pb_true ⟨j, h1, by omega, h3⟩)
  have HNO : Hid ((∀ j, k0 ≤ j → j + k0 < n → ¬ nth xs j ∈ ys) → shB k0 xs ys = false) := Lib.hid (fun h => by
    unfold shB
    refine pb_false ?_
    rintro ⟨j, h1, h2, h3⟩
    exact h j h1 (by omega) h3)
  obtain ⟨R, hR⟩ : ∃ R, shB k0 xs ys = R := ⟨_, rfl⟩
  rw [hR] at HYES HNO ⊢
  clear hn hr hm hr2 hR
  have e1 : IntKind.i64.wrap ((n : Int) - (k0 : Int)) = (n : Int) - (k0 : Int) := IntWalk.i64_in _ (by omega)
  go_enter Try.func143, Try.ntmps143
  go_wp2
  go_loop [7] (fun i => ∃ k : Nat, k0 ≤ k ∧ k ≤ n + k0 ∧ i = .int .i64 k ∧ Hid (∀ j, k0 ≤ j → j < k → ¬ nth xs j ∈ ys)) (fun i => n + k0 - (intOf i).toNat)
  case atStart => exact ⟨k0, Nat.le_refl _, by omega, rfl, Lib.hid (fun j h1 h2 => by omega)⟩
  case round =>
    obtain ⟨k, hk0', hk, rfl, HA⟩ := hrel
    by_cases hlt : (k : Int) < (n : Int) - (k0 : Int)
    case neg =>
      have HE : Hid (R = false) := Lib.hid (HNO.out (fun j h1 h2 => HA.out j h1 (by omega)))
      go_wp2
      go_ret
      exact ⟨retb HE.out.symm, rfl⟩
    case pos =>
    have hks : k < xs.length := by have := HN.out; omega
    obtain ⟨ad, hA, hbl, hc⟩ := ints_at HR.out hks
    subst hA
    rw [nth_eq hks] at hc
    have hkn : (k : Int) < n := by omega
    have CC := Lib.hid (CH.out (nth xs k))
    cases hb : decide (nth xs k ∈ ys)
    case true =>
      have HE : Hid (R = true) := Lib.hid (HYES.out k hk0' (by omega) (of_decide_eq_true hb))
      rw [hb] at CC
      clear hb
      go_wp2_with fail
      refine CC.out.mono ?_
      rintro e w' ⟨rfl, rfl⟩
      go_wp2
      go_ret
      exact ⟨retb HE.out.symm, rfl⟩
    case false =>
      have HA2 : Hid (∀ j, k0 ≤ j → j < k + 1 → ¬ nth xs j ∈ ys) := Lib.hid (fun j h1 h2 => by
        by_cases e : j = k
        · subst e; exact of_decide_eq_false hb
        · exact HA.out j h1 (by omega))
      rw [hb] at CC
      clear hb
      go_wp2_with fail
      refine CC.out.mono ?_
      rintro e w' ⟨rfl, rfl⟩
      go_wp2
      go_round
      case rel => exact ⟨k + 1, by omega, by omega, by go_num, HA2⟩
      case measure => simp [intOf]; omega

end Go.Proofs.Ytkpendpjdemknaa
