/- Contracts: lists of amplifiers, the level behind one, a single span: specification and implementation. No condition but those typed. -/
import Derived.Test.YtgaankdmppoghaaLevI
import Derived.Test.YtgaankdmppoghaaRegion
namespace Go.Proofs.Ytgaankdmppoghaa
open Go.ChangeShapes Go.WideShapes Go.ChangeAt Go.RowKit

def ampsB (am : List Q4) (s : Int) : Bool := (List.range am.length).all (ampK am s)
theorem ampsB_true {am : List Q4} {s : Int} (h : ampsB am s = true) : ampsP am s := by
  intro k hk
  unfold ampsB at h
  exact List.all_eq_true.1 h k (List.mem_range.2 hk)
theorem ampsB_mk {am : List Q4} {s : Int} (h : ∀ k, k < am.length → ampK am s k = true) : ampsB am s = true := by
  unfold ampsB
  exact List.all_eq_true.2 fun k hk => h k (List.mem_range.1 hk)
theorem ampsB_no {am : List Q4} {s : Int} {k : Nat} (hk : k < am.length) (h : ampK am s k = false) : ampsB am s = false := by
  cases hb : ampsB am s with
  | false => rfl
  | true => rw [ampsB_true hb k hk] at h; exact absurd h (by decide)
theorem getD_at {am : List Q4} {k : Nat} (hk : k < am.length) : am.getD k amz = am[k] := by
  rw [List.getD_eq_getElem?_getD, List.getElem?_eq_getElem hk]; rfl
theorem ampK_mk {am : List Q4} {s : Int} {k : Nat} {q : Q4} (hq : am.getD k amz = q) (h1 : kindB q = true) (h2 : 0 ≤ q.a) (h3 : q.a < s) (h4 : prevA am k < q.a) : ampK am s k = true := by
  unfold ampK; rw [hq, h1, decide_eq_true ⟨h2, h3, h4⟩]; rfl
theorem ampK_no {am : List Q4} {s : Int} {k : Nat} {q : Q4} (hq : am.getD k amz = q) (h : kindB q = false ∨ q.a < 0 ∨ s ≤ q.a ∨ q.a ≤ prevA am k) : ampK am s k = false := by
  unfold ampK; rw [hq]
  rcases h with h | h
  · rw [h]; rfl
  · rw [decide_eq_false (by omega), Bool.and_false]
theorem prevA_zero {am : List Q4} {k : Nat} (hk : ¬ 0 < k) : prevA am k = -1 := by
  obtain rfl : k = 0 := by omega
  rfl
theorem prevA_pos {am : List Q4} {k : Nat} (hk : 0 < k) : prevA am k = (am.getD (k - 1) amz).a := by
  obtain ⟨j, rfl⟩ : ∃ j, k = j + 1 := ⟨k - 1, by omega⟩
  rfl

set_option maxHeartbeats 4000000 in
theorem sList (g n c : Nat) (am : List Q4) (s : Int) (w : World) (hs0 : 0 ≤ s) (hs1 : s ≤ 1048576) (hn : am.length = n) (hs : n ≤ 1048576) (hr : Rd w w.heap.size (some ⟨g, 0, none⟩) (am.flatMap Q4.cells)) :
    Calls Try.prog 83 #[.slice (some ⟨g, 0, none⟩) n c, .int .i64 s] w (RetV (.bool (ampsB am s)) w) := by
  have HN := Lib.hid hn; clear hn
  have HR := Lib.hid hr; clear hr
  have ew : IntKind.i64.wrap (s - 1) = s - 1 := IntWalk.i64_in _ (by omega)
  have HEW := Lib.hid ew; clear ew
  go_enter Try.func83, Try.ntmps83
  go_wp2
  go_loopw [5] (fun i wr => ∃ k : Nat, k ≤ n ∧ i = .int .i64 k ∧ Hid (∀ j, j < k → ampK am s j = true) ∧ Below w.heap.size w wr) (fun i _ => n - (intOf i).toNat)
  case atStart => exact ⟨0, Nat.zero_le _, rfl, Lib.hid (fun j hj => by omega), Below.refl _ _⟩
  case round =>
    obtain ⟨k, hk, rfl, HA, hb⟩ := hrel
    by_cases hlt : k < n
    case neg =>
      have HQ : Hid (ampsB am s = true) := Lib.hid (ampsB_mk fun j hj => HA.out j (by have := HN.out; omega))
      go_wp2
      go_ret
      exact retB HQ.out hb
    case pos =>
    have hks : k < am.length := by have := HN.out; omega
    have hrc := (HR.out.over hb).q4c hks
    rw [Nat.zero_add] at hrc
    obtain ⟨⟨a, b, c3, d⟩, hq⟩ : ∃ q, am[k]'hks = q := ⟨_, rfl⟩
    have HG : Hid (am.getD k amz = ⟨a, b, c3, d⟩) := Lib.hid ((getD_at hks).trans hq)
    rw [hq] at hrc
    obtain ⟨hg, f0, f1, f2, f3⟩ := hrc
    simp only at f0 f1 f2 f3
    have HS : Hid (ampK am s k = true → ∀ j, j < k + 1 → ampK am s j = true) := Lib.hid fun h j hj => by
      by_cases hjk : j < k
      · exact HA.out j hjk
      · obtain rfl : j = k := by omega
        exact h
    have HF : Hid (ampK am s k = false → ampsB am s = false) := Lib.hid fun h => ampsB_no hks h
    have CD := Lib.hid (fun W => sKind a b c3 d W)
    have CI := Lib.hid (fun W => in_r a 0 (s - 1) W)
    clear hq
    have hgw : g < wr.heap.size := Nat.lt_of_lt_of_le hg hb.size
    cases h1 : kindB ⟨a, b, c3, d⟩
    case false =>
      rw [h1] at CD
      have HQ : Hid (ampsB am s = false) := Lib.hid (HF.out (ampK_no HG.out (.inl h1)))
      clear h1
      go_wp2
      obtain ⟨T, f, x0, hx0, hT, HST⟩ := above wr
      haveI : Nonempty T := ⟨x0⟩
      have r0 : ∀ x, (f x).cell? ⟨g, k * 4, none⟩ = some (.int .i64 a) := fun x => ((hT x).cell (p := ⟨_, _, none⟩) hgw).trans f0
      have r1 : ∀ x, (f x).cell? ⟨g, k * 4 + 1, none⟩ = some (.int .i64 b) := fun x => ((hT x).cell (p := ⟨_, _, none⟩) hgw).trans f1
      have r2 : ∀ x, (f x).cell? ⟨g, k * 4 + 2, none⟩ = some (.int .i64 c3) := fun x => ((hT x).cell (p := ⟨_, _, none⟩) hgw).trans f2
      have r3 : ∀ x, (f x).cell? ⟨g, k * 4 + 3, none⟩ = some (.int .i64 d) := fun x => ((hT x).cell (p := ⟨_, _, none⟩) hgw).trans f3
      have HT := Lib.hid hT; have HX := Lib.hid hx0; clear hT hx0 f0 f1 f2 f3
      have ew := HEW.out
      refine wp_region_class f (by kernel_rfl) (by kernel_rfl) x0 HX.out ?_
      repeat (go_big_quiet_step ((first | (go_at_call 67; exact Calls.inClass HST (CD.out _)) | (go_at_call 71; exact Calls.inClass HST (CI.out _)))))
      refine wpQuiet_nil ?_
      rintro _ ⟨x, rfl⟩
      clear ew
      go_wp2
      go_ret
      exact retB HQ.out (hb.trans ((HT.out x).mono hb.size))
    case true =>
    rw [h1] at CD
    have H1 := Lib.hid h1; clear h1
    cases h2 : inB a 0 (s - 1)
    case false =>
      rw [h2] at CI
      have HQ : Hid (ampsB am s = false) := Lib.hid (HF.out (ampK_no HG.out (by have := inB_false h2; simp only; omega)))
      clear h2
      go_wp2
      obtain ⟨T, f, x0, hx0, hT, HST⟩ := above wr
      haveI : Nonempty T := ⟨x0⟩
      have r0 : ∀ x, (f x).cell? ⟨g, k * 4, none⟩ = some (.int .i64 a) := fun x => ((hT x).cell (p := ⟨_, _, none⟩) hgw).trans f0
      have r1 : ∀ x, (f x).cell? ⟨g, k * 4 + 1, none⟩ = some (.int .i64 b) := fun x => ((hT x).cell (p := ⟨_, _, none⟩) hgw).trans f1
      have r2 : ∀ x, (f x).cell? ⟨g, k * 4 + 2, none⟩ = some (.int .i64 c3) := fun x => ((hT x).cell (p := ⟨_, _, none⟩) hgw).trans f2
      have r3 : ∀ x, (f x).cell? ⟨g, k * 4 + 3, none⟩ = some (.int .i64 d) := fun x => ((hT x).cell (p := ⟨_, _, none⟩) hgw).trans f3
      have HT := Lib.hid hT; have HX := Lib.hid hx0; clear hT hx0 f0 f1 f2 f3
      have ew := HEW.out
      refine wp_region_class f (by kernel_rfl) (by kernel_rfl) x0 HX.out ?_
      repeat (go_big_quiet_step ((first | (go_at_call 67; exact Calls.inClass HST (CD.out _)) | (go_at_call 71; exact Calls.inClass HST (CI.out _)))))
      refine wpQuiet_nil ?_
      rintro _ ⟨x, rfl⟩
      clear ew
      go_wp2
      go_ret
      exact retB HQ.out (hb.trans ((HT.out x).mono hb.size))
    case true =>
    rw [h2] at CI
    have a0 := (inB_true h2).1
    have a1 := (inB_true h2).2
    clear h2
    by_cases hk0 : 0 < k
    case neg =>
      have HQ : Hid (∀ j, j < k + 1 → ampK am s j = true) := Lib.hid (HS.out (ampK_mk HG.out H1.out a0 (by simp only; omega) (by rw [prevA_zero hk0]; simp only; omega)))
      have z1 : decide (0 < k) = false := decide_eq_false hk0
      clear a0 a1
      go_wp2
      obtain ⟨T, f, x0, hx0, hT, HST⟩ := above wr
      haveI : Nonempty T := ⟨x0⟩
      have r0 : ∀ x, (f x).cell? ⟨g, k * 4, none⟩ = some (.int .i64 a) := fun x => ((hT x).cell (p := ⟨_, _, none⟩) hgw).trans f0
      have r1 : ∀ x, (f x).cell? ⟨g, k * 4 + 1, none⟩ = some (.int .i64 b) := fun x => ((hT x).cell (p := ⟨_, _, none⟩) hgw).trans f1
      have r2 : ∀ x, (f x).cell? ⟨g, k * 4 + 2, none⟩ = some (.int .i64 c3) := fun x => ((hT x).cell (p := ⟨_, _, none⟩) hgw).trans f2
      have r3 : ∀ x, (f x).cell? ⟨g, k * 4 + 3, none⟩ = some (.int .i64 d) := fun x => ((hT x).cell (p := ⟨_, _, none⟩) hgw).trans f3
      have HT := Lib.hid hT; have HX := Lib.hid hx0; clear hT hx0 f0 f1 f2 f3
      have ew := HEW.out
      refine wp_region_class f (by kernel_rfl) (by kernel_rfl) x0 HX.out ?_
      repeat (go_big_quiet_step ((first | (go_at_call 67; exact Calls.inClass HST (CD.out _)) | (go_at_call 71; exact Calls.inClass HST (CI.out _)))))
      refine wpQuiet_nil ?_
      rintro _ ⟨x, rfl⟩
      clear ew
      go_wp2
      go_roundw
      case rel => exact ⟨k + 1, by omega, by go_num, HQ, hb.trans ((HT.out x).mono hb.size)⟩
      case measure => simp [intOf]; omega
    case pos =>
    have hps : k - 1 < am.length := by omega
    have hpc := (HR.out.over hb).q4c hps
    rw [Nat.zero_add] at hpc
    have g0 := hpc.2.1
    have HP : Hid (prevA am k = (am[k - 1]'hps).a) := Lib.hid (by rw [prevA_pos hk0, getD_at hps])
    obtain ⟨pa, hpa⟩ : ∃ q, (am[k - 1]'hps).a = q := ⟨_, rfl⟩
    rw [hpa] at g0 HP
    clear hpa hpc
    by_cases hpv : a ≤ pa
    case pos =>
      have HQ : Hid (ampsB am s = false) := Lib.hid (HF.out (ampK_no HG.out (by have := HP.out; simp only; omega)))
      clear a0 a1
      go_wp2
      obtain ⟨T, f, x0, hx0, hT, HST⟩ := above wr
      haveI : Nonempty T := ⟨x0⟩
      have r0 : ∀ x, (f x).cell? ⟨g, k * 4, none⟩ = some (.int .i64 a) := fun x => ((hT x).cell (p := ⟨_, _, none⟩) hgw).trans f0
      have r1 : ∀ x, (f x).cell? ⟨g, k * 4 + 1, none⟩ = some (.int .i64 b) := fun x => ((hT x).cell (p := ⟨_, _, none⟩) hgw).trans f1
      have r2 : ∀ x, (f x).cell? ⟨g, k * 4 + 2, none⟩ = some (.int .i64 c3) := fun x => ((hT x).cell (p := ⟨_, _, none⟩) hgw).trans f2
      have r3 : ∀ x, (f x).cell? ⟨g, k * 4 + 3, none⟩ = some (.int .i64 d) := fun x => ((hT x).cell (p := ⟨_, _, none⟩) hgw).trans f3
      have r4 : ∀ x, (f x).cell? ⟨g, (k - 1) * 4, none⟩ = some (.int .i64 pa) := fun x => ((hT x).cell (p := ⟨_, _, none⟩) hgw).trans g0
      clear g0
      have HT := Lib.hid hT; have HX := Lib.hid hx0; clear hT hx0 f0 f1 f2 f3
      have ew := HEW.out
      have e1 : IntKind.i64.wrap ((k : Int) - 1) = (k : Int) - 1 := IntWalk.i64_in _ (by omega)
      have e2 : (0 : Int) ≤ (k : Int) - 1 := by omega
      have e3 : ((k : Int) - 1).toNat = k - 1 := by omega
      have e4 : k - 1 < n := by omega
      have e5 : 1 ≤ (k : Int) := by omega
      refine wp_region_class f (by kernel_rfl) (by kernel_rfl) x0 HX.out ?_
      repeat (go_big_quiet_step ((first | (go_at_call 67; exact Calls.inClass HST (CD.out _)) | (go_at_call 71; exact Calls.inClass HST (CI.out _)))))
      refine wpQuiet_nil ?_
      rintro _ ⟨x, rfl⟩
      clear ew e1 e2 e3 e4 e5
      go_wp2
      go_ret
      exact retB HQ.out (hb.trans ((HT.out x).mono hb.size))
    case neg =>
      have HQ : Hid (∀ j, j < k + 1 → ampK am s j = true) := Lib.hid (HS.out (ampK_mk HG.out H1.out a0 (by simp only; omega) (by have := HP.out; simp only; omega)))
      clear a0 a1
      go_wp2
      obtain ⟨T, f, x0, hx0, hT, HST⟩ := above wr
      haveI : Nonempty T := ⟨x0⟩
      have r0 : ∀ x, (f x).cell? ⟨g, k * 4, none⟩ = some (.int .i64 a) := fun x => ((hT x).cell (p := ⟨_, _, none⟩) hgw).trans f0
      have r1 : ∀ x, (f x).cell? ⟨g, k * 4 + 1, none⟩ = some (.int .i64 b) := fun x => ((hT x).cell (p := ⟨_, _, none⟩) hgw).trans f1
      have r2 : ∀ x, (f x).cell? ⟨g, k * 4 + 2, none⟩ = some (.int .i64 c3) := fun x => ((hT x).cell (p := ⟨_, _, none⟩) hgw).trans f2
      have r3 : ∀ x, (f x).cell? ⟨g, k * 4 + 3, none⟩ = some (.int .i64 d) := fun x => ((hT x).cell (p := ⟨_, _, none⟩) hgw).trans f3
      have r4 : ∀ x, (f x).cell? ⟨g, (k - 1) * 4, none⟩ = some (.int .i64 pa) := fun x => ((hT x).cell (p := ⟨_, _, none⟩) hgw).trans g0
      clear g0
      have HT := Lib.hid hT; have HX := Lib.hid hx0; clear hT hx0 f0 f1 f2 f3
      have ew := HEW.out
      have e1 : IntKind.i64.wrap ((k : Int) - 1) = (k : Int) - 1 := IntWalk.i64_in _ (by omega)
      have e2 : (0 : Int) ≤ (k : Int) - 1 := by omega
      have e3 : ((k : Int) - 1).toNat = k - 1 := by omega
      have e4 : k - 1 < n := by omega
      have e5 : 1 ≤ (k : Int) := by omega
      refine wp_region_class f (by kernel_rfl) (by kernel_rfl) x0 HX.out ?_
      repeat (go_big_quiet_step ((first | (go_at_call 67; exact Calls.inClass HST (CD.out _)) | (go_at_call 71; exact Calls.inClass HST (CI.out _)))))
      refine wpQuiet_nil ?_
      rintro _ ⟨x, rfl⟩
      clear ew e1 e2 e3 e4 e5
      go_wp2
      go_roundw
      case rel => exact ⟨k + 1, by omega, by go_num, HQ, hb.trans ((HT.out x).mono hb.size)⟩
      case measure => simp [intOf]; omega
end Go.Proofs.Ytgaankdmppoghaa
