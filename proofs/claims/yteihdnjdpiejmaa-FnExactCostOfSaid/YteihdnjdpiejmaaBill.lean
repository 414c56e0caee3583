/- Contracts: spec.l19Before, spec.l19Bill and impl.isBill answer the same plain word. No condition but those typed. -/
import Derived.Test.YteihdnjdpiejmaaAll
import Derived.Test.YteihdnjdpiejmaaQ3
import Derived.Test.YteihdnjdpiejmaaRegion
import Derived.StillTailTactics
import Derived.Deep.RegionWith
namespace Go.Proofs.Yteihdnjdpiejmaa
open Go.ChangeShapes Go.WideShapes Go.ChangeAt Go.RowKit

def z3 : Q3 := ⟨0, 0, 0⟩
open Classical in
noncomputable def pq (p : Prop) : Bool := decide p
open Classical in
theorem pq_true {p : Prop} (h : p) : pq p = true := by unfold pq; exact decide_eq_true h
open Classical in
theorem pq_false {p : Prop} (h : ¬ p) : pq p = false := by unfold pq; exact decide_eq_false h
def befB (p q : Q3) : Bool := decide (p.a < q.a ∨ (p.a = q.a ∧ p.b < q.b))
def itB (q : Q3) : Bool := inB q.a 1 4 && (inB q.b 0 7 && inB q.c 1 1000)
def bilAt (qs : List Q3) (k : Nat) : Prop := itB (qs.getD k z3) = true ∧ (0 < k → befB (qs.getD (k - 1) z3) (qs.getD k z3) = true)
def bilP (qs : List Q3) : Prop := qs.length ≤ 32 ∧ ∀ k, k < qs.length → bilAt qs k
theorem getD_at {qs : List Q3} {k : Nat} {q : Q3} (h : k < qs.length) (e : qs[k]'h = q) : qs.getD k z3 = q := by
  rw [List.getD_eq_getElem?_getD, List.getElem?_eq_getElem h, e]; rfl
theorem pred_wrapB (j m : Nat) (h : j = m + 1) (hs : j ≤ 1000000000000) : IntKind.i64.wrap ((j : Int) - 1) = (m : Int) := by
  rw [IntWalk.i64_in _ (by omega)]; omega
theorem itB_mk {q : Q3} (h1 : inB q.a 1 4 = true) (h2 : inB q.b 0 7 = true) (h3 : inB q.c 1 1000 = true) : itB q = true := by unfold itB; rw [h1, h2, h3]; rfl
theorem itB_iff (q : Q3) : itB q = true ↔ (1 ≤ q.a ∧ q.a ≤ 4) ∧ (0 ≤ q.b ∧ q.b ≤ 7) ∧ 1 ≤ q.c ∧ q.c ≤ 1000 := by
  unfold itB
  rw [Bool.and_eq_true, Bool.and_eq_true]
  exact ⟨fun h => ⟨inB_true h.1, inB_true h.2.1, inB_true h.2.2⟩, fun h => ⟨inB_mk h.1.1 h.1.2, inB_mk h.2.1.1 h.2.1.2, inB_mk h.2.2.1 h.2.2.2⟩⟩

set_option maxHeartbeats 1000000 in
theorem bef_ (a b c a' b' c' : Int) (w : World) : Calls Try.prog 134 #[.agg #[.int .i64 a, .int .i64 b, .int .i64 c], .agg #[.int .i64 a', .int .i64 b', .int .i64 c']] w (RetV (.bool (befB ⟨a, b, c⟩ ⟨a', b', c'⟩)) w) := by
  have HB := Lib.hid (((Below.refl w.heap.size w).alloc (Nat.le_refl _) (Obj.cells #[.int .i64 a, .int .i64 b, .int .i64 c] 111)).alloc (by simp) (Obj.cells #[.int .i64 a', .int .i64 b', .int .i64 c'] 111))
  by_cases h1 : a < a'
  · have HR : Hid (befB ⟨a, b, c⟩ ⟨a', b', c'⟩ = true) := Lib.hid (decide_eq_true (.inl h1))
    go_enter Try.func134, Try.ntmps134
    go_wp2
    go_ret
    exact retB HR.out HB.out
  · have h1' : decide (a < a') = false := decide_eq_false h1
    by_cases h2 : a = a'
    · have e1 : (a == a') = true := by simpa using h2
      by_cases h3 : b < b'
      · have HR : Hid (befB ⟨a, b, c⟩ ⟨a', b', c'⟩ = true) := Lib.hid (decide_eq_true (.inr ⟨h2, h3⟩))
        clear h1 h2
        go_enter Try.func134, Try.ntmps134
        go_wp2
        go_ret
        exact retB HR.out HB.out
      · have HR : Hid (befB ⟨a, b, c⟩ ⟨a', b', c'⟩ = false) := Lib.hid (decide_eq_false fun h => h.elim h1 fun h => h3 h.2)
        have h3' : decide (b < b') = false := decide_eq_false h3
        clear h1 h2 h3
        go_enter Try.func134, Try.ntmps134
        go_wp2
        go_ret
        exact retB HR.out HB.out
    · have HR : Hid (befB ⟨a, b, c⟩ ⟨a', b', c'⟩ = false) := Lib.hid (decide_eq_false fun h => h.elim h1 fun h => h2 h.1)
      have e1 : (a == a') = false := by simpa using h2
      clear h1 h2
      go_enter Try.func134, Try.ntmps134
      go_wp2
      go_ret
      exact retB HR.out HB.out

set_option maxRecDepth 100000 in
set_option maxHeartbeats 4000000 in
theorem specBill (g n c : Nat) (qs : List Q3) (w : World) (hn : qs.length = n) (hs : n ≤ 1048576) (hr : Rd w w.heap.size (some ⟨g, 0, none⟩) (qs.flatMap Q3.cells)) :
    Calls Try.prog 80 #[.slice (some ⟨g, 0, none⟩) n c] w (RetV (.bool (pq (bilP qs))) w) := by
  have HN := Lib.hid hn; clear hn
  go_enter Try.func80, Try.ntmps80
  go_wp2
  go_loopw [3] (fun i wr => ∃ k : Nat, k ≤ n ∧ i = .int .i64 k ∧ Hid (∀ j, j < k → bilAt qs j) ∧ Below w.heap.size w wr) (fun i _ => n - (intOf i).toNat)
  case atStart => exact ⟨0, Nat.zero_le _, rfl, Lib.hid (fun j h => absurd h (by omega)), Below.refl _ _⟩
  case round =>
    obtain ⟨k, hk, rfl, HA, hb⟩ := hrel
    by_cases hlt : k < n
    case neg =>
      have HQ : Hid (pq (bilP qs) = decide ((n : Int) ≤ 32)) := Lib.hid (by
        by_cases h : n ≤ 32
        · rw [decide_eq_true (by omega)]
          exact pq_true ⟨by have := HN.out; omega, fun j hj => HA.out j (by have := HN.out; omega)⟩
        · rw [decide_eq_false (by omega)]
          exact pq_false fun hp => h (by have := hp.1; have := HN.out; omega))
      have hkn : ¬ (k : Int) < n := by omega
      clear hlt
      go_wp2
      go_ret
      exact retB HQ.out hb
    case pos =>
    have hks : k < qs.length := by have := HN.out; omega
    have HF : Hid (¬ bilAt qs k → pq (bilP qs) = false) := Lib.hid fun h => pq_false fun hp => h (hp.2 k hks)
    have hrc := (hr.over hb).q3c hks
    rw [Nat.zero_add] at hrc
    obtain ⟨⟨a, b, c3⟩, hq⟩ : ∃ q, qs[k]'hks = q := ⟨_, rfl⟩
    rw [hq] at hrc
    obtain ⟨hg, f0, f1, f2⟩ := hrc
    simp only at f0 f1 f2
    have HQK := Lib.hid (getD_at hks hq)
    clear hq
    have CI : Hid (∀ x l h W, Calls Try.prog 81 #[.int .i64 x, .int .i64 l, .int .i64 h] W fun e w' => e = .returned (.bool (inB x l h)) ∧ Below W.heap.size W w') := Lib.hid fun x l h W =>
      (in_ x l h W).mono fun e w' ⟨h1, h2⟩ => ⟨h1, h2 ▸ Below.refl _ _⟩
    have C1 := Lib.hid (CI.out a 1 4); have C2 := Lib.hid (CI.out b 0 7); have C3 := Lib.hid (CI.out c3 1 1000)
    have HI : Hid (itB (qs.getD k z3) = (inB a 1 4 && (inB b 0 7 && inB c3 1 1000))) := Lib.hid (by rw [HQK.out]; rfl)
    obtain ⟨r1, hr1⟩ : ∃ r, inB a 1 4 = r := ⟨_, rfl⟩
    obtain ⟨r2, hr2⟩ : ∃ r, inB b 0 7 = r := ⟨_, rfl⟩
    obtain ⟨r3, hr3⟩ : ∃ r, inB c3 1 1000 = r := ⟨_, rfl⟩
    rw [hr1, hr2, hr3] at HI
    rw [hr1] at C1; rw [hr2] at C2; rw [hr3] at C3
    clear hr1 hr2 hr3 CI
    have hzw : w.heap.size ≤ wr.heap.size := hb.size
    have hgr : g < wr.heap.size := by omega
    have hb1 : Below w.heap.size w (wr.alloc (Obj.cells #[.int .i64 a, .int .i64 b, .int .i64 c3] 111)) := hb.alloc hzw _
    by_cases hok : (r1 && (r2 && r3)) = true
    case neg =>
      have hokf : (r1 && (r2 && r3)) = false := by simpa using hok
      have HQ := Lib.hid (HF.out fun h => by have h2 := h.1; rw [HI.out, hokf] at h2; exact absurd h2 (by decide))
      clear hok HF HI HA
      go_wp2_with fail
      obtain ⟨W1, hW1⟩ : ∃ W1, (wr.alloc (Obj.cells #[.int .i64 a, .int .i64 b, .int .i64 c3] 111)) = W1 := ⟨_, rfl⟩
      have x0_ : W1.cell? ⟨wr.heap.size, 0, none⟩ = some (.int .i64 a) := by rw [← hW1]; simp [go_sem]
      have x1_ : W1.cell? ⟨wr.heap.size, 1, none⟩ = some (.int .i64 b) := by rw [← hW1]; simp [go_sem]
      have x2_ : W1.cell? ⟨wr.heap.size, 2, none⟩ = some (.int .i64 c3) := by rw [← hW1]; simp [go_sem]
      have hz1 : wr.heap.size < W1.heap.size := by rw [← hW1]; simp
      have hbb : Below wr.heap.size wr W1 := by rw [← hW1]; exact (Below.refl _ _).alloc (Nat.le_refl _) _
      rw [hW1] at hb1 ⊢
      have hbW := Lib.hid hb1
      clear hW1 hb1
      cases r1
      case false =>
        obtain ⟨T, f, x0, hx0, hT, HST⟩ := above W1
        haveI : Nonempty T := ⟨x0⟩
        have r0 : ∀ x, (f x).cell? ⟨wr.heap.size, 0, none⟩ = some (.int .i64 a) := fun x => ((hT x).cell (p := ⟨_, _, none⟩) hz1).trans x0_
        have r1 : ∀ x, (f x).cell? ⟨wr.heap.size, 1, none⟩ = some (.int .i64 b) := fun x => ((hT x).cell (p := ⟨_, _, none⟩) hz1).trans x1_
        have r2 : ∀ x, (f x).cell? ⟨wr.heap.size, 2, none⟩ = some (.int .i64 c3) := fun x => ((hT x).cell (p := ⟨_, _, none⟩) hz1).trans x2_
        have HT := Lib.hid hT; have HX := Lib.hid hx0; clear hT hx0 x0_ x1_ x2_ f0 f1 f2
        clear hbb
        refine wp_region_class f (by kernel_rfl) (by kernel_rfl) x0 HX.out ?_
        repeat (go_big_quiet_step ((first | (go_at_call_of 81 (Value.int .i64 a); exact Calls.inClass HST (C1.out _)) | (go_at_call_of 81 (Value.int .i64 b); exact Calls.inClass HST (C2.out _)) | (go_at_call_of 81 (Value.int .i64 c3); exact Calls.inClass HST (C3.out _)))))
        refine wpQuiet_nil ?_
        rintro _ ⟨x, rfl⟩
        go_wp2
        go_ret
        exact retB HQ.out (hbW.out.trans ((HT.out x).mono hbW.out.size))
      case true =>
      cases r2
      case false =>
        obtain ⟨T, f, x0, hx0, hT, HST⟩ := above W1
        haveI : Nonempty T := ⟨x0⟩
        have r0 : ∀ x, (f x).cell? ⟨wr.heap.size, 0, none⟩ = some (.int .i64 a) := fun x => ((hT x).cell (p := ⟨_, _, none⟩) hz1).trans x0_
        have r1 : ∀ x, (f x).cell? ⟨wr.heap.size, 1, none⟩ = some (.int .i64 b) := fun x => ((hT x).cell (p := ⟨_, _, none⟩) hz1).trans x1_
        have r2 : ∀ x, (f x).cell? ⟨wr.heap.size, 2, none⟩ = some (.int .i64 c3) := fun x => ((hT x).cell (p := ⟨_, _, none⟩) hz1).trans x2_
        have HT := Lib.hid hT; have HX := Lib.hid hx0; clear hT hx0 x0_ x1_ x2_ f0 f1 f2
        clear hbb
        refine wp_region_class f (by kernel_rfl) (by kernel_rfl) x0 HX.out ?_
        repeat (go_big_quiet_step ((first | (go_at_call_of 81 (Value.int .i64 a); exact Calls.inClass HST (C1.out _)) | (go_at_call_of 81 (Value.int .i64 b); exact Calls.inClass HST (C2.out _)) | (go_at_call_of 81 (Value.int .i64 c3); exact Calls.inClass HST (C3.out _)))))
        refine wpQuiet_nil ?_
        rintro _ ⟨x, rfl⟩
        go_wp2
        go_ret
        exact retB HQ.out (hbW.out.trans ((HT.out x).mono hbW.out.size))
      case true =>
      cases r3
      case false =>
        obtain ⟨T, f, x0, hx0, hT, HST⟩ := above W1
        haveI : Nonempty T := ⟨x0⟩
        have r0 : ∀ x, (f x).cell? ⟨wr.heap.size, 0, none⟩ = some (.int .i64 a) := fun x => ((hT x).cell (p := ⟨_, _, none⟩) hz1).trans x0_
        have r1 : ∀ x, (f x).cell? ⟨wr.heap.size, 1, none⟩ = some (.int .i64 b) := fun x => ((hT x).cell (p := ⟨_, _, none⟩) hz1).trans x1_
        have r2 : ∀ x, (f x).cell? ⟨wr.heap.size, 2, none⟩ = some (.int .i64 c3) := fun x => ((hT x).cell (p := ⟨_, _, none⟩) hz1).trans x2_
        have HT := Lib.hid hT; have HX := Lib.hid hx0; clear hT hx0 x0_ x1_ x2_ f0 f1 f2
        clear hbb
        refine wp_region_class f (by kernel_rfl) (by kernel_rfl) x0 HX.out ?_
        repeat (go_big_quiet_step ((first | (go_at_call_of 81 (Value.int .i64 a); exact Calls.inClass HST (C1.out _)) | (go_at_call_of 81 (Value.int .i64 b); exact Calls.inClass HST (C2.out _)) | (go_at_call_of 81 (Value.int .i64 c3); exact Calls.inClass HST (C3.out _)))))
        refine wpQuiet_nil ?_
        rintro _ ⟨x, rfl⟩
        go_wp2
        go_ret
        exact retB HQ.out (hbW.out.trans ((HT.out x).mono hbW.out.size))
      case true => exact absurd hokf (by decide)
    case pos =>
    obtain ⟨rfl, hok2⟩ : r1 = true ∧ (r2 && r3) = true := by simpa using hok
    obtain ⟨rfl, rfl⟩ : r2 = true ∧ r3 = true := by simpa using hok2
    clear hok hok2
    by_cases hk0 : k = 0
    case pos =>
      have HS : Hid (∀ j, j < k + 1 → bilAt qs j) := Lib.hid fun j hj => by
        obtain rfl : j = k := by omega
        exact ⟨HI.out, fun h => absurd h (by omega)⟩
      clear HF HI HA
      have hd0 : decide (0 < k) = false := decide_eq_false (by omega)
      clear hk0
      go_wp2_with fail
      obtain ⟨W1, hW1⟩ : ∃ W1, (wr.alloc (Obj.cells #[.int .i64 a, .int .i64 b, .int .i64 c3] 111)) = W1 := ⟨_, rfl⟩
      have x0_ : W1.cell? ⟨wr.heap.size, 0, none⟩ = some (.int .i64 a) := by rw [← hW1]; simp [go_sem]
      have x1_ : W1.cell? ⟨wr.heap.size, 1, none⟩ = some (.int .i64 b) := by rw [← hW1]; simp [go_sem]
      have x2_ : W1.cell? ⟨wr.heap.size, 2, none⟩ = some (.int .i64 c3) := by rw [← hW1]; simp [go_sem]
      have hz1 : wr.heap.size < W1.heap.size := by rw [← hW1]; simp
      have hbb : Below wr.heap.size wr W1 := by rw [← hW1]; exact (Below.refl _ _).alloc (Nat.le_refl _) _
      rw [hW1] at hb1 ⊢
      have hbW := Lib.hid hb1
      clear hW1 hb1
      obtain ⟨T, f, x0, hx0, hT, HST⟩ := above W1
      haveI : Nonempty T := ⟨x0⟩
      have r0 : ∀ x, (f x).cell? ⟨wr.heap.size, 0, none⟩ = some (.int .i64 a) := fun x => ((hT x).cell (p := ⟨_, _, none⟩) hz1).trans x0_
      have r1 : ∀ x, (f x).cell? ⟨wr.heap.size, 1, none⟩ = some (.int .i64 b) := fun x => ((hT x).cell (p := ⟨_, _, none⟩) hz1).trans x1_
      have r2 : ∀ x, (f x).cell? ⟨wr.heap.size, 2, none⟩ = some (.int .i64 c3) := fun x => ((hT x).cell (p := ⟨_, _, none⟩) hz1).trans x2_
      have HT := Lib.hid hT; have HX := Lib.hid hx0; clear hT hx0 x0_ x1_ x2_ f0 f1 f2
      clear hbb
      refine wp_region_class f (by kernel_rfl) (by kernel_rfl) x0 HX.out ?_
      repeat (go_big_quiet_step ((first | (go_at_call_of 81 (Value.int .i64 a); exact Calls.inClass HST (C1.out _)) | (go_at_call_of 81 (Value.int .i64 b); exact Calls.inClass HST (C2.out _)) | (go_at_call_of 81 (Value.int .i64 c3); exact Calls.inClass HST (C3.out _)))))
      refine wpQuiet_nil ?_
      rintro _ ⟨x, rfl⟩
      go_wp2
      go_roundw
      case rel => exact ⟨k + 1, by omega, by go_num, HS, hbW.out.trans ((HT.out x).mono hbW.out.size)⟩
      case measure => simp [intOf]; omega
    case neg =>
    obtain ⟨m, hkm⟩ : ∃ m, k = m + 1 := ⟨k - 1, by omega⟩
    have hwr := pred_wrapB k m hkm (by omega)
    have hms : m < qs.length := by omega
    have hmn : (m : Int) < n := by omega
    have hrm := (hr.over hb).q3c hms
    rw [Nat.zero_add] at hrm
    obtain ⟨⟨a', b', c'⟩, hqm⟩ : ∃ q, qs[m]'hms = q := ⟨_, rfl⟩
    rw [hqm] at hrm
    obtain ⟨_, p0, p1, p2⟩ := hrm
    simp only at p0 p1 p2
    have HB : Hid (befB (qs.getD (k - 1) z3) (qs.getD k z3) = befB ⟨a', b', c'⟩ ⟨a, b, c3⟩) := Lib.hid (by
      rw [HQK.out, show k - 1 = m by omega, getD_at hms hqm])
    clear hqm
    have CB := Lib.hid (fun W => bef_ a' b' c' a b c3 W)
    obtain ⟨r4, hr4⟩ : ∃ r, befB ⟨a', b', c'⟩ ⟨a, b, c3⟩ = r := ⟨_, rfl⟩
    rw [hr4] at CB HB
    clear hr4
    have hd0 : decide (0 < k) = true := decide_eq_true (by omega)
    cases r4
    case false =>
      have HQ := Lib.hid (HF.out fun h => by have h2 := h.2 (by omega); rw [HB.out] at h2; exact absurd h2 (by decide))
      clear HF HI HA HB
      have HKM := Lib.hid hkm; clear hkm hk0
      go_wp2_with fail
      obtain ⟨W1, hW1⟩ : ∃ W1, (wr.alloc (Obj.cells #[.int .i64 a, .int .i64 b, .int .i64 c3] 111)) = W1 := ⟨_, rfl⟩
      have x0_ : W1.cell? ⟨wr.heap.size, 0, none⟩ = some (.int .i64 a) := by rw [← hW1]; simp [go_sem]
      have x1_ : W1.cell? ⟨wr.heap.size, 1, none⟩ = some (.int .i64 b) := by rw [← hW1]; simp [go_sem]
      have x2_ : W1.cell? ⟨wr.heap.size, 2, none⟩ = some (.int .i64 c3) := by rw [← hW1]; simp [go_sem]
      have hz1 : wr.heap.size < W1.heap.size := by rw [← hW1]; simp
      have hbb : Below wr.heap.size wr W1 := by rw [← hW1]; exact (Below.refl _ _).alloc (Nat.le_refl _) _
      rw [hW1] at hb1 ⊢
      have hbW := Lib.hid hb1
      clear hW1 hb1
      obtain ⟨T, f, x0, hx0, hT, HST⟩ := above W1
      haveI : Nonempty T := ⟨x0⟩
      have r0 : ∀ x, (f x).cell? ⟨wr.heap.size, 0, none⟩ = some (.int .i64 a) := fun x => ((hT x).cell (p := ⟨_, _, none⟩) hz1).trans x0_
      have r1 : ∀ x, (f x).cell? ⟨wr.heap.size, 1, none⟩ = some (.int .i64 b) := fun x => ((hT x).cell (p := ⟨_, _, none⟩) hz1).trans x1_
      have r2 : ∀ x, (f x).cell? ⟨wr.heap.size, 2, none⟩ = some (.int .i64 c3) := fun x => ((hT x).cell (p := ⟨_, _, none⟩) hz1).trans x2_
      have HT := Lib.hid hT; have HX := Lib.hid hx0; clear hT hx0 x0_ x1_ x2_ f0 f1 f2
      have s0 : ∀ x, (f x).cell? ⟨g, m * 3, none⟩ = some (.int .i64 a') := fun x => ((HT.out x).cell (p := ⟨_, _, none⟩) (Nat.lt_trans hgr hz1)).trans ((hbb.cell (p := ⟨_, _, none⟩) hgr).trans p0)
      have s1 : ∀ x, (f x).cell? ⟨g, m * 3 + 1, none⟩ = some (.int .i64 b') := fun x => ((HT.out x).cell (p := ⟨_, _, none⟩) (Nat.lt_trans hgr hz1)).trans ((hbb.cell (p := ⟨_, _, none⟩) hgr).trans p1)
      have s2 : ∀ x, (f x).cell? ⟨g, m * 3 + 2, none⟩ = some (.int .i64 c') := fun x => ((HT.out x).cell (p := ⟨_, _, none⟩) (Nat.lt_trans hgr hz1)).trans ((hbb.cell (p := ⟨_, _, none⟩) hgr).trans p2)
      clear p0 p1 p2 hbb
      refine wp_region_class f (by kernel_rfl) (by kernel_rfl) x0 HX.out ?_
      repeat (go_big_quiet_step ((first | (go_at_call_of 81 (Value.int .i64 a); exact Calls.inClass HST (C1.out _)) | (go_at_call_of 81 (Value.int .i64 b); exact Calls.inClass HST (C2.out _)) | (go_at_call_of 81 (Value.int .i64 c3); exact Calls.inClass HST (C3.out _)) | (go_at_call 134; exact Calls.inClass HST (CB.out _)))))
      refine wpQuiet_nil ?_
      rintro _ ⟨x, rfl⟩
      go_wp2
      go_ret
      exact retB HQ.out (hbW.out.trans ((HT.out x).mono hbW.out.size))
    case true =>
      have HS : Hid (∀ j, j < k + 1 → bilAt qs j) := Lib.hid fun j hj => by
        by_cases hjk : j < k
        · exact HA.out j hjk
        · obtain rfl : j = k := by omega
          exact ⟨HI.out, fun _ => HB.out⟩
      clear HF HI HA HB
      have HKM := Lib.hid hkm; clear hkm hk0
      go_wp2_with fail
      obtain ⟨W1, hW1⟩ : ∃ W1, (wr.alloc (Obj.cells #[.int .i64 a, .int .i64 b, .int .i64 c3] 111)) = W1 := ⟨_, rfl⟩
      have x0_ : W1.cell? ⟨wr.heap.size, 0, none⟩ = some (.int .i64 a) := by rw [← hW1]; simp [go_sem]
      have x1_ : W1.cell? ⟨wr.heap.size, 1, none⟩ = some (.int .i64 b) := by rw [← hW1]; simp [go_sem]
      have x2_ : W1.cell? ⟨wr.heap.size, 2, none⟩ = some (.int .i64 c3) := by rw [← hW1]; simp [go_sem]
      have hz1 : wr.heap.size < W1.heap.size := by rw [← hW1]; simp
      have hbb : Below wr.heap.size wr W1 := by rw [← hW1]; exact (Below.refl _ _).alloc (Nat.le_refl _) _
      rw [hW1] at hb1 ⊢
      have hbW := Lib.hid hb1
      clear hW1 hb1
      obtain ⟨T, f, x0, hx0, hT, HST⟩ := above W1
      haveI : Nonempty T := ⟨x0⟩
      have r0 : ∀ x, (f x).cell? ⟨wr.heap.size, 0, none⟩ = some (.int .i64 a) := fun x => ((hT x).cell (p := ⟨_, _, none⟩) hz1).trans x0_
      have r1 : ∀ x, (f x).cell? ⟨wr.heap.size, 1, none⟩ = some (.int .i64 b) := fun x => ((hT x).cell (p := ⟨_, _, none⟩) hz1).trans x1_
      have r2 : ∀ x, (f x).cell? ⟨wr.heap.size, 2, none⟩ = some (.int .i64 c3) := fun x => ((hT x).cell (p := ⟨_, _, none⟩) hz1).trans x2_
      have HT := Lib.hid hT; have HX := Lib.hid hx0; clear hT hx0 x0_ x1_ x2_ f0 f1 f2
      have s0 : ∀ x, (f x).cell? ⟨g, m * 3, none⟩ = some (.int .i64 a') := fun x => ((HT.out x).cell (p := ⟨_, _, none⟩) (Nat.lt_trans hgr hz1)).trans ((hbb.cell (p := ⟨_, _, none⟩) hgr).trans p0)
      have s1 : ∀ x, (f x).cell? ⟨g, m * 3 + 1, none⟩ = some (.int .i64 b') := fun x => ((HT.out x).cell (p := ⟨_, _, none⟩) (Nat.lt_trans hgr hz1)).trans ((hbb.cell (p := ⟨_, _, none⟩) hgr).trans p1)
      have s2 : ∀ x, (f x).cell? ⟨g, m * 3 + 2, none⟩ = some (.int .i64 c') := fun x => ((HT.out x).cell (p := ⟨_, _, none⟩) (Nat.lt_trans hgr hz1)).trans ((hbb.cell (p := ⟨_, _, none⟩) hgr).trans p2)
      clear p0 p1 p2 hbb
      refine wp_region_class f (by kernel_rfl) (by kernel_rfl) x0 HX.out ?_
      repeat (go_big_quiet_step ((first | (go_at_call_of 81 (Value.int .i64 a); exact Calls.inClass HST (C1.out _)) | (go_at_call_of 81 (Value.int .i64 b); exact Calls.inClass HST (C2.out _)) | (go_at_call_of 81 (Value.int .i64 c3); exact Calls.inClass HST (C3.out _)) | (go_at_call 134; exact Calls.inClass HST (CB.out _)))))
      refine wpQuiet_nil ?_
      rintro _ ⟨x, rfl⟩
      go_wp2
      go_roundw
      case rel => exact ⟨k + 1, by omega, by go_num, HS, hbW.out.trans ((HT.out x).mono hbW.out.size)⟩
      case measure => simp [intOf]; omega
end Go.Proofs.Yteihdnjdpiejmaa
