/- Contracts: spec.MovePointer and impl.MovePointer answer the same plain words. No condition but those typed. -/
import Derived.Test.YtgaankdmppoghaaAll
namespace Go.Proofs.Ytgaankdmppoghaa
open Go.ChangeShapes Go.WideShapes Go.ChangeAt Go.RowKit

def movB (p d : Int) : Bool := inB p 0 11 && inB d (-1) 1
def movI (p d : Int) : Int := if movB p d then (p + d + 12) % 12 else 0
theorem mov_yes {p d : Int} (h0 : 0 ≤ p) (h1 : p ≤ 11) (h2 : -1 ≤ d) (h3 : d ≤ 1) : movB p d = true ∧ movI p d = (p + d + 12) % 12 := by
  have h : movB p d = true := by unfold movB; rw [inB_mk h0 h1, inB_mk h2 h3]; rfl
  exact ⟨h, by unfold movI; rw [h]; rfl⟩
theorem mov_no {p d : Int} (h : (p < 0 ∨ 11 < p) ∨ (d < -1 ∨ 1 < d)) : movB p d = false ∧ movI p d = 0 := by
  have h : movB p d = false := by
    unfold movB
    rcases h with h | h
    · rw [inB_no h]; rfl
    · rw [inB_no h, Bool.and_false]
  exact ⟨h, by unfold movI; rw [h]; rfl⟩
theorem iPtr_yes (p : Int) (w : World) (h0 : 0 ≤ p) (h1 : p ≤ 11) : Calls Try.prog 77 #[.int .i64 p] w fun e w' => e = .returned (.bool true) ∧ w = w' := by
  have h2 : decide (p < 12) = true := decide_eq_true (by omega)
  go_enter Try.func77, Try.ntmps77
  go_wp2
  go_ret
  exact ⟨rfl, rfl⟩
theorem iPtr_no (p : Int) (w : World) (h : p < 0 ∨ 11 < p) : Calls Try.prog 77 #[.int .i64 p] w fun e w' => e = .returned (.bool false) ∧ w = w' := by
  by_cases h0 : p < 0
  · clear h
    go_enter Try.func77, Try.ntmps77
    go_wp2
    go_ret
    exact ⟨rfl, rfl⟩
  · have h1 : decide (p < 12) = false := decide_eq_false (by omega)
    have h2 : 0 ≤ p := by omega
    clear h h0
    go_enter Try.func77, Try.ntmps77
    go_wp2
    go_ret
    exact ⟨rfl, rfl⟩
theorem sMov (p d : Int) (w : World) : Calls Try.prog 45 #[.int .i64 p, .int .i64 d] w (RetV (.tuple #[.int .i64 (movI p d), .bool (movB p d)]) w) := by
  have CP := Lib.hid (fun W => in_ p 0 11 W)
  have CD := Lib.hid (fun W => in_ d (-1) 1 W)
  by_cases hp : 0 ≤ p ∧ p ≤ 11
  case neg =>
    rw [inB_no (by omega)] at CP
    obtain ⟨e1, e2⟩ := mov_no (p := p) (d := d) (.inl (by omega))
    rw [e1, e2]
    clear e1 e2 hp
    go_enter Try.func45, Try.ntmps45
    go_wp2_with fail
    refine (CP.out _).mono ?_
    rintro e w' ⟨rfl, rfl⟩
    go_wp2
    go_ret2
    exact retV rfl (Below.refl _ _)
  case pos =>
  rw [inB_mk hp.1 hp.2] at CP
  by_cases hd : -1 ≤ d ∧ d ≤ 1
  case neg =>
    rw [inB_no (by omega)] at CD
    obtain ⟨e1, e2⟩ := mov_no (p := p) (d := d) (.inr (by omega))
    rw [e1, e2]
    clear e1 e2 hp hd
    go_enter Try.func45, Try.ntmps45
    go_wp2_with fail
    refine (CP.out _).mono ?_
    rintro e w' ⟨rfl, rfl⟩
    go_wp2_with fail
    refine (CD.out _).mono ?_
    rintro e w' ⟨rfl, rfl⟩
    go_wp2
    go_ret2
    exact retV rfl (Below.refl _ _)
  case pos =>
  rw [inB_mk hd.1 hd.2] at CD
  obtain ⟨e1, e2⟩ := mov_yes hp.1 hp.2 hd.1 hd.2
  rw [e1, e2]
  obtain ⟨a0, a1⟩ := hp
  obtain ⟨b0, b1⟩ := hd
  clear e1 e2
  go_enter Try.func45, Try.ntmps45
  go_wp2_with fail
  refine (CP.out _).mono ?_
  rintro e w' ⟨rfl, rfl⟩
  go_wp2_with fail
  refine (CD.out _).mono ?_
  rintro e w' ⟨rfl, rfl⟩
  go_wp2
  go_ret2
  exact retV rfl (Below.refl _ _)
theorem iMov (p d : Int) (w : World) : Calls Try.prog 46 #[.int .i64 p, .int .i64 d] w (RetV (.tuple #[.int .i64 (movI p d), .bool (movB p d)]) w) := by
  by_cases hp : 0 ≤ p ∧ p ≤ 11
  case neg =>
    have CP := Lib.hid (fun W => iPtr_no p W (by omega))
    obtain ⟨e1, e2⟩ := mov_no (p := p) (d := d) (.inl (by omega))
    rw [e1, e2]
    clear e1 e2 hp
    go_enter Try.func46, Try.ntmps46
    go_wp2_with fail
    refine (CP.out _).mono ?_
    rintro e w' ⟨rfl, rfl⟩
    go_wp2
    go_ret2
    exact retV rfl (Below.refl _ _)
  case pos =>
  have CP := Lib.hid (fun W => iPtr_yes p W hp.1 hp.2)
  by_cases hd : d < -1 ∨ 1 < d
  case pos =>
    obtain ⟨e1, e2⟩ := mov_no (p := p) (d := d) (.inr hd)
    rw [e1, e2]
    clear e1 e2 hp
    by_cases h0 : d < -1
    · clear hd
      go_enter Try.func46, Try.ntmps46
      go_wp2_with fail
      refine (CP.out _).mono ?_
      rintro e w' ⟨rfl, rfl⟩
      go_wp2
      go_ret2
      exact retV rfl (Below.refl _ _)
    · have h1 : 1 < d := by omega
      have h2 : decide (d < -1) = false := decide_eq_false h0
      clear hd h0
      go_enter Try.func46, Try.ntmps46
      go_wp2_with fail
      refine (CP.out _).mono ?_
      rintro e w' ⟨rfl, rfl⟩
      go_wp2
      go_ret2
      exact retV rfl (Below.refl _ _)
  case neg =>
  obtain ⟨a0, a1⟩ := hp
  have b0 : -1 ≤ d := by omega
  have b1 : d ≤ 1 := by omega
  obtain ⟨e1, e2⟩ := mov_yes a0 a1 b0 b1
  rw [e1, e2]
  clear e1 e2 hd
  go_enter Try.func46, Try.ntmps46
  go_wp2_with fail
  refine (CP.out _).mono ?_
  rintro e w' ⟨rfl, rfl⟩
  go_wp2
  go_ret2
  exact retV rfl (Below.refl _ _)
end Go.Proofs.Ytgaankdmppoghaa
