/- Contracts of the cursor that reads choices from bytes: whatever the bytes, its answers lie in their ranges, and it writes its own block alone. No condition but those typed. -/
import Derived.Test.YtlankoameeacpaaRd
import Derived.Deep.QuietTactic
import Derived.BigQuiet
import Derived.Laws.BitsAllLaws
import Derived.Laws.BitsLemmas
import Derived.IntWalk
namespace Go.Proofs.Ytlankoameeacpaa
open Go.ChangeShapes Go.WideShapes Go.ChangeAt Go.RowKit

/-- the cells of a slice of bytes: each is a byte. -/
def RdB (w : World) (B : Nat) (A : Option Addr) (n : Nat) : Prop :=
  ∀ k, k < n → ∃ ad v, A = some ad ∧ ad.block < B ∧ 0 ≤ v ∧ v ≤ 255 ∧ w.cell? (ad.add k) = some (.int .u8 v)
theorem RdB.over {w w' : World} {B : Nat} {A : Option Addr} {n : Nat} (h : RdB w B A n) (hk : ∀ b, b < B → w'.heap[b]? = w.heap[b]?) : RdB w' B A n := by
  intro k hk'
  obtain ⟨ad, v, e, hl, h0, h1, hc⟩ := h k hk'
  exact ⟨ad, v, e, hl, h0, h1, by rw [World.cell?_of_block (w := w) (hk _ (by rw [addBlock]; exact hl))]; exact hc⟩

/-- the cursor lies whole in block g, its bytes below block B; it has read at most K bytes. -/
def CurAt (w : World) (g B : Nat) (A : Option Addr) (n c : Nat) (K : Int) : Prop :=
  ∃ at' seed : Int, w.heap[g]? = some (.cells #[.slice A n c, .int .i64 at', .int .u64 seed] 84 (0, 0)) ∧ 0 ≤ at' ∧ at' ≤ K ∧ RdB w B A n ∧ B ≤ g ∧ n ≤ 140737488355328
/-- the world differs in block g alone, and by new blocks. -/
def Only (g : Nat) (w w' : World) : Prop := w.grownBy w' (some g)
theorem Only.refl (g : Nat) (w : World) : Only g w w := World.grownBy.refl w _
theorem Only.trans {g : Nat} {a b c : World} (h : Only g a b) (k : Only g b c) : Only g a c :=
  ⟨k.os.trans h.os, k.tape.trans h.tape, k.output.trans h.output, Nat.le_trans h.size k.size, fun i hi hne => (k.block i (Nat.lt_of_lt_of_le hi h.size) hne).trans (h.block i hi hne)⟩
theorem Only.drew {g : Nat} {a b : World} (h : Only g a b) (n : Nat) : Only g a (b.drewN n) := ⟨h.os, h.tape, h.output, h.size, h.block⟩
theorem Only.set {g : Nat} {a b : World} (h : Only g a b) (i : Nat) (u : Value) : Only g a (b.setCell ⟨g, i, none⟩ u) :=
  ⟨h.os, h.tape, h.output, by simpa [World.setCell] using h.size, fun k hk hne => (Below.heap_setCell b ⟨g, i, none⟩ u k (fun e => hne (by rw [e]))).trans (h.block k hk hne)⟩
theorem Only.below {g B : Nat} {a b : World} (h : Only g a b) (hB : B ≤ g) (hg : g < a.heap.size) : Below B a b :=
  ⟨h.os, h.tape, h.output, h.size, fun k hk => h.block k (by omega) (by simp; omega)⟩

theorem and255 (x : Int) : 0 ≤ bits .and .u64 x 255 ∧ bits .and .u64 x 255 ≤ 255 := by
  have h : (BitVec.ofInt 64 x &&& BitVec.ofInt 64 255).toNat ≤ 255 := by
    rw [BitVec.toNat_and]; exact Nat.and_le_right
  have e : bits .and .u64 x 255 = IntKind.u64.wrap ((BitVec.ofInt 64 x &&& BitVec.ofInt 64 255).toNat : Int) := rfl
  rw [e, IntKind.wrap_u64]
  omega

theorem w255 (x : Int) : 0 ≤ wrap64 (bits .and .u64 x 255) ∧ wrap64 (bits .and .u64 x 255) ≤ 255 := by
  have := and255 x
  rw [IntWalk.wrap64_in _ ⟨by omega, by omega⟩]; exact this
theorem cur_step {w : World} {g B n c j : Nat} {A : Option Addr} {K at' seed s2 : Int} (hg : w.heap[g]? = some (.cells #[.slice A n c, .int .i64 at', .int .u64 seed] 84 (0, 0)))
    (h0 : 0 ≤ at') (h1 : at' ≤ K) (hrd : RdB w B A n) (hBg : B ≤ g) (hn : n ≤ 140737488355328) :
    CurAt ((((w.drewN j).setCell ⟨g, 1, none⟩ (.int .i64 (at' + 1))).setCell ⟨g, 2, none⟩ (.int .u64 s2))) g B A n c (K + 1) := by
  have hg0 : (w.drewN j).heap[g]? = some (.cells #[.slice A n c, .int .i64 at', .int .u64 seed] 84 (0, 0)) := hg
  have h2 := heap_setCell_same (w.drewN j) g 1 _ _ (.int .i64 (at' + 1)) hg0
  have h3 := heap_setCell_same _ g 2 _ _ (.int .u64 s2) h2
  refine ⟨at' + 1, s2, by simpa using h3, by omega, by omega, ?_, hBg, hn⟩
  refine hrd.over fun b hb => ?_
  rw [Below.heap_setCell _ _ _ _ (by simp; omega), Below.heap_setCell _ _ _ _ (by simp; omega)]
  rfl
theorem only_step {w : World} {g j : Nat} {u v : Value} : Only g w (((w.drewN j).setCell ⟨g, 1, none⟩ u).setCell ⟨g, 2, none⟩ v) :=
  (((Only.refl g w).drew j).set 1 u).set 2 v

set_option maxHeartbeats 1000000 in
theorem next_any (g B : Nat) (A : Option Addr) (n c : Nat) (K : Int) (w : World) (hK : K ≤ 1000000000) (h : CurAt w g B A n c K) :
    Calls Try.prog 88 #[.pointer (some ⟨g, 0, none⟩)] w fun e w' => ∃ r : Int, e = .returned (.int .i64 r) ∧ 0 ≤ r ∧ r ≤ 255 ∧ CurAt w' g B A n c (K + 1) ∧ Only g w w' := by
  obtain ⟨at', seed, hg, h0, h1, hrd, hBg, hn⟩ := h
  have c0 : w.cell? ⟨g, 0, none⟩ = some (.slice A n c) := cell_of_row w g 0 _ _ _ hg
  have c1 : w.cell? ⟨g, 1, none⟩ = some (.int .i64 at') := cell_of_row w g 1 _ _ _ hg
  have c2 : w.cell? ⟨g, 2, none⟩ = some (.int .u64 seed) := cell_of_row w g 2 _ _ _ hg
  have f1 : w.frozen? ⟨g, 1, none⟩ = false := frozen_of_row w g 1 _ _ hg
  have f2 : w.frozen? ⟨g, 2, none⟩ = false := frozen_of_row w g 2 _ _ hg
  have HG := Lib.hid hg; clear hg
  by_cases hlt : at' < n
  · obtain ⟨ad, v, rfl, hadB, hv0, hv1, hc⟩ := hrd at'.toNat (by omega)
    go_enter Try.func88, Try.ntmps88
    go_wp2
    go_quiet (fail)
    go_wp2
    go_quiet (fail)
    go_wp2
    by_cases hle : at' + 1 ≤ n
    · go_quiet (fail)
      go_wp2
      go_ret
      exact ⟨v, rfl, hv0, hv1, cur_step HG.out h0 h1 hrd hBg hn, only_step.drew _⟩
    · have hle' : (n : Int) < at' + 1 := by omega
      omega
  · have hge : (n : Int) ≤ at' := by omega
    clear hlt
    have hlt' : decide (at' < (n : Int)) = false := by simpa using hge
    have hle' : decide (at' + 1 ≤ (n : Int)) = false := by simp; omega
    go_enter Try.func88, Try.ntmps88
    go_wp2
    go_quiet (fail)
    go_wp2
    go_quiet (fail)
    go_wp2
    go_ret
    refine ⟨_, rfl, ?_, ?_, cur_step HG.out h0 h1 hrd hBg hn, only_step.drew _⟩
    · exact (w255 _).1
    · exact (w255 _).2

theorem CurAt.mono {w : World} {g B n c : Nat} {A : Option Addr} {K K' : Int} (h : CurAt w g B A n c K) (hK : K ≤ K') : CurAt w g B A n c K' := by
  obtain ⟨a, s, h1, h2, h3, h4⟩ := h; exact ⟨a, s, h1, h2, by omega, h4⟩
theorem CurAt.draws {w : World} {g B n c : Nat} {A : Option Addr} {K : Int} (h : CurAt w g B A n c K) (k : Nat) : CurAt (w.drewN k) g B A n c K := h
theorem CurAt.alloc {w : World} {g B n c : Nat} {A : Option Addr} {K : Int} (h : CurAt w g B A n c K) (o : Obj) : CurAt (w.alloc o) g B A n c K := by
  obtain ⟨a, s, h1, h2, h3, h4, h5, h6⟩ := h
  have hlt : g < w.heap.size := by
    rcases Nat.lt_or_ge g w.heap.size with h | h
    · exact h
    · rw [Array.getElem?_eq_none h] at h1; cases h1
  exact ⟨a, s, by rw [Below.heap_alloc w o g hlt]; exact h1, h2, h3, h4.over (fun b hb => Below.heap_alloc w o b (by omega)), h5, h6⟩

set_option maxHeartbeats 1000000 in
theorem pick_any (g B : Nat) (A : Option Addr) (n c : Nat) (K m : Int) (w : World) (hK : K ≤ 999999990) (hm1 : 1 ≤ m) (hm : m ≤ 65536) (h : CurAt w g B A n c K) :
    Calls Try.prog 50 #[.pointer (some ⟨g, 0, none⟩), .int .i64 m] w fun e w' => ∃ r : Int, e = .returned (.int .i64 r) ∧ 0 ≤ r ∧ r < m ∧ CurAt w' g B A n c (K + 2) ∧ Only g w w' := by
  have HC := Lib.hid h; clear h
  by_cases h1 : m ≤ 1
  · go_enter Try.func50, Try.ntmps50
    go_wp2_with fail
    go_ret
    exact ⟨0, rfl, by omega, by omega, HC.out.mono (by omega), Only.refl _ _⟩
  · have h1' : 1 < m := by omega
    clear h1
    by_cases h2 : 200 < m
    · go_enter Try.func50, Try.ntmps50
      go_wp2_with fail
      refine (next_any g B A n c K w (by omega) HC.out).mono ?_
      rintro e w1 ⟨r1, rfl, ha, hb, hc1, ho1⟩
      have HC1 := Lib.hid hc1; clear hc1
      go_wp2_with fail
      refine (next_any g B A n c (K + 1) w1 (by omega) HC1.out).mono ?_
      rintro e w2 ⟨r2, rfl, ha2, hb2, hc2, ho2⟩
      have HC2 := Lib.hid hc2; clear hc2
      go_wp2_with fail
      go_ret
      exact ⟨_, rfl, Int.emod_nonneg _ (by omega), Int.emod_lt_of_pos _ (by omega), HC2.out.mono (by omega), ho1.trans ho2⟩
    · have h2' : m ≤ 200 := by omega
      clear h2
      go_enter Try.func50, Try.ntmps50
      go_wp2_with fail
      refine (next_any g B A n c K w (by omega) HC.out).mono ?_
      rintro e w1 ⟨r1, rfl, ha, hb, hc1, ho1⟩
      have HC1 := Lib.hid hc1; clear hc1
      go_wp2_with fail
      go_ret
      exact ⟨_, rfl, Int.emod_nonneg _ (by omega), Int.emod_lt_of_pos _ (by omega), HC1.out.mono (by omega), ho1⟩

end Go.Proofs.Ytlankoameeacpaa
