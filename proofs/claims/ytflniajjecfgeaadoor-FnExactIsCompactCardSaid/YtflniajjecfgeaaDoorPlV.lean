/- A plan in memory of the call's own: its lights' marks are held; whole plans compared, marked, held. No condition but those typed. -/
import Derived.Test.YtflniajjecfgeaaDoorLtV
namespace Go.Proofs.YtflniajjecfgeaaDoor
open Go.ChangeShapes Go.WideShapes Go.ChangeAt Go.RowKit
theorem mAt_up (k : Nat) (ys : List Lt) {j : Nat} (hj : j < ys.length) : mAt k ys j ≤ mAt k ys (j + 1) := by rw [mAt_succ k ys hj]; omega
theorem mAt_le (k : Nat) (ys : List Lt) : ∀ (d j : Nat), j + d ≤ ys.length → mAt k ys j ≤ mAt k ys (j + d)
  | 0, j, _ => Nat.le_refl _
  | d + 1, j, h => by
    have h1 := mAt_le k ys d j (by omega)
    have h2 := mAt_up k ys (j := j + d) (by omega)
    exact Nat.le_trans h1 h2
theorem mAt_mono (k : Nat) (ys : List Lt) {j n : Nat} (hj : j ≤ n) (hn : n ≤ ys.length) : mAt k ys j ≤ mAt k ys n := by
  have := mAt_le k ys (n - j) j (by omega)
  rwa [show j + (n - j) = n by omega] at this
theorem mAt_base (k : Nat) (ys : List Lt) (j : Nat) : k ≤ mAt k ys j := by unfold mAt; omega
theorem mAt_bound (k : Nat) (ys : List Lt) (j m : Nat) (hm : ∀ y ∈ ys, y.n ≤ m) : mAt k ys j ≤ k + j * (4 + m) := by
  unfold mAt
  have : ∀ l : List Lt, (∀ y ∈ l, y.n ≤ m) → (l.map fun y => 4 + y.n).sum ≤ l.length * (4 + m) := by
    intro l hl
    induction l with
    | nil => simp
    | cons a r ih =>
      rw [List.map_cons, List.sum_cons, List.length_cons, Nat.succ_mul]
      have h1 := ih (fun y hy => hl y (List.mem_cons_of_mem _ hy))
      have h2 := hl a (by simp)
      omega
  have h1 := this (ys.take j) (fun y hy => hm y (List.mem_of_mem_take hy))
  have h2 : (ys.take j).length ≤ j := by rw [List.length_take]; omega
  have h3 := Nat.mul_le_mul_right (4 + m) h2
  omega
/-- the blocks of own lights. -/
def LtBl (A : Option Addr) (n c : Nat) (ys : List Lt) (b : Nat) : Prop := (Value.slice A n c).ownBlock = some b ∨ ∃ y ∈ ys, (ltv y).ownBlock = some b
set_option maxHeartbeats 2000000 in
theorem eqPlR (A1 A2 A3 A1' A2' A3' : Option Addr) (n1 n2 n3 c1 c2 c3 c1' c2' c3' : Nat) (ss : List ByteArray) (fs : List Q4) (xs ys : List Lt) (w : World) (hn1 : ss.length = n1) (hs1 : n1 ≤ 1048576) (hn2 : fs.length = n2) (hs2 : n2 ≤ 1048576) (hs3 : n3 ≤ 1048576)
    (hr1 : Rd w w.heap.size A1 (ss.map Value.string)) (hr1' : Rd w w.heap.size A1' (ss.map Value.string)) (hr2 : Rd w w.heap.size A2 (fs.flatMap Q4.cells)) (hr2' : Rd w w.heap.size A2' (fs.flatMap Q4.cells)) (hx : LtR A3 n3 xs w) (hy : LtR A3' n3 ys w) (hd : xs.map Lt.d = ys.map Lt.d) :
    Calls Tryd.prog 8 #[.agg #[.slice A1 n1 c1, .slice A2 n2 c2, .slice A3 n3 c3], .agg #[.slice A1' n1 c1', .slice A2' n2 c2', .slice A3' n3 c3']] w
      fun e w' => e = .returned (.bool true) ∧ Below w.heap.size w w' := by
  have HN1 := Lib.hid hn1; have HN2 := Lib.hid hn2; clear hn1 hn2
  obtain ⟨W0, hW0⟩ : ∃ W0, (w.alloc (Obj.cells #[.slice A1 n1 c1, .slice A2 n2 c2, .slice A3 n3 c3] 37)).alloc (Obj.cells #[.slice A1' n1 c1', .slice A2' n2 c2', .slice A3' n3 c3'] 37) = W0 := ⟨_, rfl⟩
  have hb0 : Below w.heap.size w W0 := by rw [← hW0]; exact ((Below.refl _ _).alloc (Nat.le_refl _) _).alloc (by simp) _
  have k0 : W0.cell? ⟨w.heap.size, 0, none⟩ = some (.slice A1 n1 c1) := by rw [← hW0]; simp [go_sem]
  have k1 : W0.cell? ⟨w.heap.size, 1, none⟩ = some (.slice A2 n2 c2) := by rw [← hW0]; simp [go_sem]
  have k2 : W0.cell? ⟨w.heap.size, 2, none⟩ = some (.slice A3 n3 c3) := by rw [← hW0]; simp [go_sem]
  have k3 : W0.cell? ⟨w.heap.size + 1, 0, none⟩ = some (.slice A1' n1 c1') := by rw [← hW0]; simp [go_sem]
  have k4 : W0.cell? ⟨w.heap.size + 1, 1, none⟩ = some (.slice A2' n2 c2') := by rw [← hW0]; simp [go_sem]
  have k5 : W0.cell? ⟨w.heap.size + 1, 2, none⟩ = some (.slice A3' n3 c3') := by rw [← hW0]; simp [go_sem]
  have hz0 : w.heap.size + 1 < W0.heap.size := by rw [← hW0]; simp
  have CS := Lib.hid (eqNetR A1 A2 A1' A2' n1 n2 c1 c2 c1' c2' ss fs W0 HN1.out hs1 HN2.out hs2 (hr1.moved hb0) (hr1'.moved hb0) (hr2.moved hb0) (hr2'.moved hb0))
  have HB0 := Lib.hid hb0
  have HX := Lib.hid hx; have HYY := Lib.hid hy; have HD := Lib.hid hd
  clear hb0 hr1 hr1' hr2 hr2' hx hy hd
  go_enter Tryd.func8, Tryd.ntmps8
  go_wp2_with fail
  clear hW0
  refine CS.out.mono ?_
  rintro e w1 ⟨rfl, hb1⟩
  have l2 := (hb1.cell (p := ⟨w.heap.size, 2, none⟩) (by show w.heap.size < _; omega)).trans k2
  have l5 := (hb1.cell (p := ⟨w.heap.size + 1, 2, none⟩) hz0).trans k5
  have HB1 := Lib.hid (HB0.out.trans (hb1.mono HB0.out.size))
  have CF := Lib.hid (eqLtsR A3 A3' n3 c3 c3' xs ys w1 (HX.out.moved HB1.out) (HYY.out.moved HB1.out) HD.out hs3)
  clear hb1 k0 k1 k2 k3 k4 k5 hz0
  go_wp2_with fail
  refine CF.out.mono ?_
  rintro e w2 ⟨rfl, hb2⟩
  have HB2 := Lib.hid (HB1.out.trans (hb2.mono HB1.out.size))
  clear hb2
  go_wp2
  go_ret
  exact ⟨rfl, HB2.out⟩
/-- own rows of a plan lie apart. -/
theorem lt_apart {B B' E s n c m d : Nat} {A A' : Option Addr} {ys : List Lt} {xs : List Value} {w : World} (h : LtC B A n c ys w) (ho : w.ownsRow B' E s (.slice A' m d) m xs) (h1 : E ≠ 67) (h2 : E ≠ 3) : ∀ g, (Value.slice A' m d).ownBlock = some g → ¬ LtBl A n c ys g := fun g hg hb => by
  rcases hb with hb | ⟨y, hy, hb⟩
  · exact own_type_apart ho h.row h1 g hg hb
  · exact own_type_apart ho (h.own y hy).2.2 h2 g hg hb
theorem LtC.offV {S : Nat → Prop} {B : Nat} {A : Option Addr} {n c : Nat} {ys : List Lt} {w w' : World} (h : LtC B A n c ys w) (hoff : Off S w w') (hs : ∀ b, LtBl A n c ys b → ¬ S b) : LtC B A n c ys w' :=
  ⟨h.len, own_offV h.row hoff (fun g hg => hs g (.inl hg)), fun y hy => (h.own y hy).offV hoff (fun g hg => hs g (.inr ⟨y, hy, hg⟩)), h.apart⟩
end Go.Proofs.YtflniajjecfgeaaDoor
