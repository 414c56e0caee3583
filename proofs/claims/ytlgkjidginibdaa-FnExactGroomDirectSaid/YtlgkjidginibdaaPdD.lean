/- First fit in descending order: the implementation's contract. No condition but those typed. -/
import Derived.Test.YtlgkjidginibdaaPdC
import Derived.Test.YtlgkjidginibdaaPdI
namespace Go.Proofs.Ytlgkjidginibdaa
open Go.ChangeShapes Go.WideShapes Go.ChangeAt Go.RowKit

set_option maxRecDepth 100000 in
set_option maxHeartbeats 4000000 in
theorem stable_ {gO n c Bp : Nat} {A : Option Addr} {L : List Int} {w00 w : World} (hn : L.length = n) (hn12 : n ≤ 12) (h0 : Below w00.heap.size w00 w) (hr : Rd w00 w00.heap.size A (L.map (Value.int .i64))) (hB : w00.cell? ⟨Bp, 0, none⟩ = some (.slice A n c)) (hBs : Bp < w00.heap.size)
    (ho : w.ownsRow w00.heap.size 3 1 (.slice (some ⟨gO, 0, none⟩) n n) n ((numL n).map (Value.int .i64))) :
    Calls Try.prog 217 #[.slice (some ⟨gO, 0, none⟩) n n, .int .i64 (n : Int), .func (.func 194) #[] #[.pointer (some ⟨Bp, 0, none⟩)]] w
      fun e w' => e = .returned (.tuple #[]) ∧ w'.ownsRow w00.heap.size 3 1 (.slice (some ⟨gO, 0, none⟩) n n) n ((ordD L n).map (Value.int .i64)) ∧ Below w00.heap.size w00 w' := by
  have CI := Lib.hid (insD_ hn hn12 h0 hr hB hBs ho)
  clear hn h0 hr hB hBs ho
  have h20 : ¬ ((20 : Int) ≤ (n : Int)) := by omega
  have h21 : ¬ ((20 : Int) < (n : Int)) := by omega
  go_enter Try.func217, Try.ntmps217
  go_wp2_with fail
  go_loopw [7, 8] (fun a b wr => a = .int .i64 0 ∧ b = .int .i64 20 ∧ wr = w) (fun _ _ _ => 0)
  case atStart => exact ⟨rfl, rfl, rfl⟩
  case round =>
    obtain ⟨rfl, rfl, rfl⟩ := hrel
    go_wp2_with fail
    refine CI.out.mono ?_
    rintro e w1 ⟨rfl, ho1, hb1⟩
    have HO1 := Lib.hid ho1; have HB1 := Lib.hid hb1
    clear ho1 hb1
    go_wp2_with fail
    go_loopw [6] (fun b wr => b = .int .i64 20 ∧ wr = w1) (fun _ _ => 0)
    case atStart => exact ⟨rfl, rfl⟩
    case round =>
      obtain ⟨rfl, rfl⟩ := hrel
      go_wp2
      go_end0
      exact ⟨rfl, HO1.out, HB1.out⟩
set_option maxRecDepth 100000 in
set_option maxHeartbeats 4000000 in
theorem sortS_ {gO n c Bp : Nat} {A : Option Addr} {L : List Int} {w00 w : World} (hn : L.length = n) (hn12 : n ≤ 12) (h0 : Below w00.heap.size w00 w) (hr : Rd w00 w00.heap.size A (L.map (Value.int .i64))) (hB : w00.cell? ⟨Bp, 0, none⟩ = some (.slice A n c)) (hBs : Bp < w00.heap.size)
    (ho : w.ownsRow w00.heap.size 3 1 (.slice (some ⟨gO, 0, none⟩) n n) n ((numL n).map (Value.int .i64))) :
    Calls Try.prog 193 #[.slice (some ⟨gO, 0, none⟩) n n, .func (.func 194) #[] #[.pointer (some ⟨Bp, 0, none⟩)]] w
      fun e w' => e = .returned (.tuple #[]) ∧ w'.ownsRow w00.heap.size 3 1 (.slice (some ⟨gO, 0, none⟩) n n) n ((ordD L n).map (Value.int .i64)) ∧ Below w00.heap.size w00 w' := by
  have CI := Lib.hid (stable_ hn hn12 h0 hr hB hBs ho)
  clear hn h0 hr hB hBs ho
  go_enter Try.func193, Try.ntmps193
  go_wp2_with fail
  refine CI.out.mono ?_
  rintro e w1 ⟨rfl, ho1, hb1⟩
  have HO1 := Lib.hid ho1; have HB1 := Lib.hid hb1
  clear ho1 hb1
  go_wp2
  go_end0
  exact ⟨rfl, HO1.out, HB1.out⟩
set_option maxRecDepth 100000 in
set_option maxHeartbeats 4000000 in
theorem implPD {A : Option Addr} {n c : Nat} {L : List Int} {w : World} (hn : L.length = n) (hr : Rd w w.heap.size A (L.map (Value.int .i64))) (hs : n ≤ 1048576) (cap : Int) :
    Calls Try.prog 128 #[.slice A n c, .int .i64 cap] w (IntsP (pdL cap L) (pb (ratesP cap L)) w) := by
  have HN := Lib.hid hn; have HR := Lib.hid hr
  clear hn hr
  go_enter Try.func128, Try.ntmps128
  go_wp2_with fail
  obtain ⟨Bp, hBp⟩ : ∃ b, w.heap.size = b := ⟨_, rfl⟩
  obtain ⟨W0, hW0⟩ : ∃ W0, w.alloc (Obj.cells #[.slice A n c] 26) = W0 := ⟨_, rfl⟩
  have hb0 : Below w.heap.size w W0 := by rw [← hW0]; exact (Below.refl _ _).alloc (Nat.le_refl _) _
  have k0 : W0.cell? ⟨Bp, 0, none⟩ = some (.slice A n c) := by rw [← hW0, ← hBp]; simp [go_sem]
  have hz0 : Bp < W0.heap.size := by rw [← hW0, ← hBp]; simp
  have HB0 := Lib.hid hb0; have HK0 := Lib.hid k0; have HZ0 := Lib.hid hz0
  have HR0 := Lib.hid (HR.out.moved hb0)
  try rw [hBp]
  try rw [hW0]
  clear hW0 hb0 hBp
  have CC := Lib.hid (canPack_ (c := c) cap HN.out HR0.out hs)
  by_cases hp : ratesP cap L
  case neg =>
    have HE := Lib.hid (pd_no hp)
    rw [pb_false hp] at CC
    clear hp
    refine CC.out.mono ?_
    rintro e w1 ⟨rfl, rfl⟩
    go_wp2
    go_ret2
    rw [HE.out.2]
    exact ints_no ⟨HE.out.1, rfl⟩ HB0.out
  case pos =>
    have HP := Lib.hid hp
    have HE := Lib.hid (pd_yes hp)
    have hn12 : n ≤ 12 := by have := hp.1; have := HN.out; omega
    rw [pb_true hp] at CC
    have CN := Lib.hid (numbersBelow_ n W0 hs)
    clear hp
    refine CC.out.mono ?_
    rintro e w1 ⟨rfl, rfl⟩
    go_wp2_with fail
    refine CN.out.mono ?_
    rintro e w1 ⟨rfl, ho1, hb1⟩
    have CS := Lib.hid (sortS_ (c := c) HN.out hn12 hb1 HR0.out HK0.out HZ0.out ho1)
    have HB1 := Lib.hid hb1
    have hmf : ∀ (fn : Fn) (first cap : Array Value) (w : World), (Instr.makeFunc fn first cap).run Try.prog w = .ok (.func fn first cap) w := fun _ _ _ _ => rfl
    clear ho1 hb1
    go_wp2_with fail
    refine CS.out.mono ?_
    rintro e w2 ⟨rfl, ho2, hb2⟩
    have k2 := (hb2.cell (p := ⟨Bp, 0, none⟩) HZ0.out).trans HK0.out
    have hz2 := Nat.lt_of_lt_of_le HZ0.out hb2.size
    have HB2 := Lib.hid (HB0.out.trans (hb2.mono HB0.out.size))
    have CP := Lib.hid (packD_ (c := c) (c2 := n) cap HN.out (HR0.out.moved hb2) HP.out (by rw [HN.out]; exact ordD_ok L n) (Rd.ofOwn ho2))
    clear ho2 hb2 k0 hz0
    go_wp2_with fail
    refine CP.out.mono ?_
    rintro e w3 ⟨rfl, ho3, hb3⟩
    have HO3 := Lib.hid ho3; have HB3 := Lib.hid hb3
    clear ho3 hb3
    go_wp2
    go_ret2
    rw [HE.out.1, HE.out.2, HN.out]
    exact ints_of HB2.out (by rw [unP_len]; exact HN.out) HO3.out HB3.out
end Go.Proofs.Ytlgkjidginibdaa
