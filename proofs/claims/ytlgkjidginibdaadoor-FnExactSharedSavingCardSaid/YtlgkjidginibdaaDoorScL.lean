/- Whether two claims clash: contract of spec.l13Clash. No condition but those typed. -/
import Derived.Test.YtlgkjidginibdaaDoorCaH
import Derived.Test.YtlgkjidginibdaaDoorGD
import Derived.Test.YtlgkjidginibdaaDoorGA
import Derived.BigRegion
namespace Go.Proofs.YtlgkjidginibdaaDoor
open Go.ChangeShapes Go.WideShapes Go.ChangeAt Go.RowKit

noncomputable def clB (xs ys : List Int) (p q : Q2) : Bool := (xs.any fun f => decide (f ∈ ys)) && (decide (0 < p.b) && (decide (0 < q.b) && pb (ovP p q)))
set_option maxRecDepth 100000 in
set_option maxHeartbeats 2000000 in
theorem l13Clash_ (st : Int) (A : Option Addr) (n c : Nat) (xs : List Int) (st2 : Int) (A2 : Option Addr) (m c3 : Nat) (ys : List Int) (p q : Q2) (hp : 0 < p.b → blkP p.a p.b) (hq : 0 < q.b → blkP q.a q.b) (w : World) (hn : xs.length = n) (hr : Rd w w.heap.size A (xs.map (Value.int .i64))) (hx : n ≤ 1048576) (hm : ys.length = m) (hr2 : Rd w w.heap.size A2 (ys.map (Value.int .i64))) (hx2 : m ≤ 1048576) :
    Calls Tryd.prog 85 #[.agg #[.int .i64 st, .slice A n c], .agg #[.int .i64 p.a, .int .i64 p.b], .agg #[.int .i64 st2, .slice A2 m c3], .agg #[.int .i64 q.a, .int .i64 q.b]] w (RetP (.bool (clB xs ys p q)) w) := by
  obtain ⟨W0, hW0⟩ : ∃ W0, ((((w.alloc (Obj.cells #[.int .i64 st, .slice A n c] 64)).alloc (Obj.cells #[.int .i64 p.a, .int .i64 p.b] 65)).alloc (Obj.cells #[.int .i64 st2, .slice A2 m c3] 64)).alloc (Obj.cells #[.int .i64 q.a, .int .i64 q.b] 65)) = W0 := ⟨_, rfl⟩
  have hb0 : Below w.heap.size w W0 := by rw [← hW0]; exact ((((Below.refl _ _).alloc (Nat.le_refl _) _).alloc (by simp) _).alloc (by simp; omega) _).alloc (by simp; omega) _
  have hz : w.heap.size + 1 + 1 + 1 < W0.heap.size := by rw [← hW0]; simp
  have HB0 := Lib.hid hb0
  obtain ⟨T, F, x0, hx0, hTT, HST⟩ := above W0
  haveI : Nonempty T := ⟨x0⟩
  have HXX := Lib.hid hx0
  have HTX : Hid (∀ x, Below W0.heap.size W0 (F x)) := Lib.hid hTT
  clear hTT hx0
  have s0_0 : ∀ x, (F x).cell? ⟨w.heap.size, 0, none⟩ = some (.int .i64 st) := fun x => ((HTX.out x).cell (p := ⟨w.heap.size, 0, none⟩) (by show w.heap.size < _; omega)).trans (by rw [← hW0]; simp [go_sem])
  have s0_1 : ∀ x, (F x).cell? ⟨w.heap.size, 1, none⟩ = some (.slice A n c) := fun x => ((HTX.out x).cell (p := ⟨w.heap.size, 1, none⟩) (by show w.heap.size < _; omega)).trans (by rw [← hW0]; simp [go_sem])
  have e0 : ∀ x, w.heap.size < (F x).heap.size := fun x => Nat.lt_of_lt_of_le (by omega) (HTX.out x).size
  have s1_0 : ∀ x, (F x).cell? ⟨w.heap.size + 1, 0, none⟩ = some (.int .i64 p.a) := fun x => ((HTX.out x).cell (p := ⟨w.heap.size + 1, 0, none⟩) (by show w.heap.size + 1 < _; omega)).trans (by rw [← hW0]; simp [go_sem])
  have s1_1 : ∀ x, (F x).cell? ⟨w.heap.size + 1, 1, none⟩ = some (.int .i64 p.b) := fun x => ((HTX.out x).cell (p := ⟨w.heap.size + 1, 1, none⟩) (by show w.heap.size + 1 < _; omega)).trans (by rw [← hW0]; simp [go_sem])
  have e1 : ∀ x, w.heap.size + 1 < (F x).heap.size := fun x => Nat.lt_of_lt_of_le (by omega) (HTX.out x).size
  have s2_0 : ∀ x, (F x).cell? ⟨w.heap.size + 1 + 1, 0, none⟩ = some (.int .i64 st2) := fun x => ((HTX.out x).cell (p := ⟨w.heap.size + 1 + 1, 0, none⟩) (by show w.heap.size + 1 + 1 < _; omega)).trans (by rw [← hW0]; simp [go_sem])
  have s2_1 : ∀ x, (F x).cell? ⟨w.heap.size + 1 + 1, 1, none⟩ = some (.slice A2 m c3) := fun x => ((HTX.out x).cell (p := ⟨w.heap.size + 1 + 1, 1, none⟩) (by show w.heap.size + 1 + 1 < _; omega)).trans (by rw [← hW0]; simp [go_sem])
  have e2 : ∀ x, w.heap.size + 1 + 1 < (F x).heap.size := fun x => Nat.lt_of_lt_of_le (by omega) (HTX.out x).size
  have s3_0 : ∀ x, (F x).cell? ⟨w.heap.size + 1 + 1 + 1, 0, none⟩ = some (.int .i64 q.a) := fun x => ((HTX.out x).cell (p := ⟨w.heap.size + 1 + 1 + 1, 0, none⟩) (by show w.heap.size + 1 + 1 + 1 < _; omega)).trans (by rw [← hW0]; simp [go_sem])
  have s3_1 : ∀ x, (F x).cell? ⟨w.heap.size + 1 + 1 + 1, 1, none⟩ = some (.int .i64 q.b) := fun x => ((HTX.out x).cell (p := ⟨w.heap.size + 1 + 1 + 1, 1, none⟩) (by show w.heap.size + 1 + 1 + 1 < _; omega)).trans (by rw [← hW0]; simp [go_sem])
  have e3 : ∀ x, w.heap.size + 1 + 1 + 1 < (F x).heap.size := fun x => Nat.lt_of_lt_of_le (by omega) (HTX.out x).size
  obtain ⟨z, hzz⟩ : ∃ z, (xs.any fun f => decide (f ∈ ys)) = z := ⟨_, rfl⟩
  have CU : Hid (∀ x, Calls Tryd.prog 100 #[.agg #[.int .i64 st, .slice A n c], .slice A2 m c3] (F x) (RetP (.bool z) (F x))) := Lib.hid fun x => by
    have h9 := l4Uses_ st A n c xs A2 m c3 ys (F x) hn (hr.moved (hb0.trans ((HTX.out x).mono hb0.size))) hx hm (hr2.moved (hb0.trans ((HTX.out x).mono hb0.size))) hx2
    rw [hzz] at h9; exact h9
  have CB : Hid (∀ (a b : Int), blkP a b → ∀ x, Calls Tryd.prog 58 #[.agg #[.int .i64 a, .int .i64 b]] (F x) (RetP (.int .i64 (bitsV a b)) (F x))) := Lib.hid fun a b hab x => specBits a b (F x) hab
  unfold clB
  rw [hzz]
  clear hzz hb0 hz hn hr hm hr2
  obtain ⟨pa, pb_⟩ := p
  obtain ⟨qa, qb_⟩ := q
  simp only at *
  go_enter Tryd.func85, Tryd.ntmps85
  cases z
  case false =>
    rw [Bool.false_and]
    go_wp2_with fail
    try rw [hW0]
    clear hW0
    refine wp_region_class F (by kernel_rfl) (by kernel_rfl) x0 HXX.out ?_
    repeat (go_big_quiet_step (first | (go_at_call 100; with_reducible exact Calls.inClass HST (CU.out _))))
    refine wpQuiet_nil ?_
    rintro _ ⟨t, rfl⟩
    have HBT := Lib.hid (HTX.out t)
    clear s0_0 s0_1 s1_0 s1_1 s2_0 s2_1 s3_0 s3_1 e0 e1 e2 e3
    generalize F t = w3 at HBT ⊢
    go_wp2
    go_ret
    exact ⟨rfl, HB0.out.trans (HBT.out.mono HB0.out.size)⟩
  case true =>
  rw [Bool.true_and]
  by_cases h1 : 0 < pb_
  case neg =>
    have d1 : decide (0 < pb_) = false := decide_eq_false h1
    rw [d1, Bool.false_and]
    go_wp2_with fail
    try rw [hW0]
    clear hW0
    refine wp_region_class F (by kernel_rfl) (by kernel_rfl) x0 HXX.out ?_
    repeat (go_big_quiet_step (first | (go_at_call 100; with_reducible exact Calls.inClass HST (CU.out _))))
    refine wpQuiet_nil ?_
    rintro _ ⟨t, rfl⟩
    have HBT := Lib.hid (HTX.out t)
    clear s0_0 s0_1 s1_0 s1_1 s2_0 s2_1 s3_0 s3_1 e0 e1 e2 e3
    generalize F t = w3 at HBT ⊢
    go_wp2
    go_ret
    exact ⟨rfl, HB0.out.trans (HBT.out.mono HB0.out.size)⟩
  case pos =>
  have d1 : decide (0 < pb_) = true := decide_eq_true h1
  rw [d1, Bool.true_and]
  by_cases h2 : 0 < qb_
  case neg =>
    have d2 : decide (0 < qb_) = false := decide_eq_false h2
    rw [d2, Bool.false_and]
    go_wp2_with fail
    try rw [hW0]
    clear hW0
    refine wp_region_class F (by kernel_rfl) (by kernel_rfl) x0 HXX.out ?_
    repeat (go_big_quiet_step (first | (go_at_call 100; with_reducible exact Calls.inClass HST (CU.out _))))
    refine wpQuiet_nil ?_
    rintro _ ⟨t, rfl⟩
    have HBT := Lib.hid (HTX.out t)
    clear s0_0 s0_1 s1_0 s1_1 s2_0 s2_1 s3_0 s3_1 e0 e1 e2 e3
    generalize F t = w3 at HBT ⊢
    go_wp2
    go_ret
    exact ⟨rfl, HB0.out.trans (HBT.out.mono HB0.out.size)⟩
  case pos =>
  have d2 : decide (0 < qb_) = true := decide_eq_true h2
  rw [d2, Bool.true_and]
  have CB1 := Lib.hid (CB.out pa pb_ (hp h1))
  have CB2 := Lib.hid (CB.out qa qb_ (hq h2))
  have hmi := meet_iff (p := ⟨pa, pb_⟩) (q := ⟨qa, qb_⟩) (hp h1) (hq h2)
  have l1 := bN_lt (p := ⟨pa, pb_⟩) (hp h1)
  have l2 := bN_lt (p := ⟨qa, qb_⟩) (hq h2)
  rw [show bitsV pa pb_ = ((bN ⟨pa, pb_⟩ : Nat) : Int) from bits_eq (hp h1)] at CB1
  rw [show bitsV qa qb_ = ((bN ⟨qa, qb_⟩ : Nat) : Int) from bits_eq (hq h2)] at CB2
  obtain ⟨M, hM⟩ : ∃ M, bN ⟨pa, pb_⟩ = M := ⟨_, rfl⟩
  obtain ⟨N, hN⟩ : ∃ N, bN ⟨qa, qb_⟩ = N := ⟨_, rfl⟩
  rw [hM] at CB1 hmi l1
  rw [hN] at CB2 hmi l2
  have eab := and_i64t M N (by omega) (by omega)
  obtain ⟨u, hu⟩ : ∃ u, M &&& N = u := ⟨_, rfl⟩
  rw [hu] at eab hmi
  have HR : Hid (pb (ovP ⟨pa, pb_⟩ ⟨qa, qb_⟩) = ((u : Int) != 0)) := Lib.hid (by
    by_cases h0 : u = 0
    · rw [pb_false (fun e => hmi.2 e h0), h0]; rfl
    · rw [pb_true (hmi.1 h0)]; exact (bne_iff_ne.2 (by omega)).symm)
  rw [HR.out]
  obtain ⟨R, hRR⟩ : ∃ R, ((u : Int) != 0) = R := ⟨_, rfl⟩
  rw [hRR]
  clear hM hN hu hmi l1 l2 hp hq CB
  go_wp2_with fail
  try rw [hW0]
  clear hW0
  refine wp_region_class F (by kernel_rfl) (by kernel_rfl) x0 HXX.out ?_
  repeat (go_big_quiet_step (first | (go_at_call 100; with_reducible exact Calls.inClass HST (CU.out _)) | (go_at_call 58; with_reducible exact Calls.inClass HST (CB1.out _)) | (go_at_call 58; with_reducible exact Calls.inClass HST (CB2.out _))))
  refine wpQuiet_nil ?_
  rintro _ ⟨t, rfl⟩
  have HBT := Lib.hid (HTX.out t)
  clear s0_0 s0_1 s1_0 s1_1 s2_0 s2_1 s3_0 s3_1 e0 e1 e2 e3
  generalize F t = w3 at HBT ⊢
  go_wp2
  go_ret
  exact ⟨rfl, HB0.out.trans (HBT.out.mono HB0.out.size)⟩
end Go.Proofs.YtlgkjidginibdaaDoor
