/- Risk groups that two routes have in common: contracts of impl.groupsOnBoth, RiskDisjoint, CommonRisks. No condition but those typed. -/
import Derived.Test.YtflniajjecfgeaaGreatDoorGrpS
import Derived.Test.YtflniajjecfgeaaGreatDoorCmp3
import Derived.Test.YtflniajjecfgeaaGreatDoorGC
import Derived.Test.YtflniajjecfgeaaGreatDoorCn
import Derived.Deep.DeepCutAuto
namespace Go.Proofs.YtflniajjecfgeaaGreatDoor
open Go.ChangeShapes Go.WideShapes Go.ChangeAt Go.RowKit

theorem maskT_lt {zs : List Int} : ∀ {k : Nat}, (∀ j, j < k → 0 ≤ nth zs j ∧ nth zs j < 20) → maskN zs k < 2 ^ 20
  | 0, _ => Nat.two_pow_pos 20
  | k + 1, h => by
    unfold maskN
    have h0 := h k (by omega)
    exact Nat.or_lt_two_pow (maskT_lt (fun j hj => h j (by omega))) (Nat.pow_lt_pow_right (by decide) (by omega))
theorem and_i64t (a b : Nat) (ha : a < 2 ^ 62) (hb : b < 2 ^ 62) : bits .and .i64 (a : Int) (b : Int) = ((a &&& b : Nat) : Int) := by
  have wr : ∀ n : Int, 0 ≤ n → n < 2 ^ 62 → IntKind.i64.wrap n = n := by intro n h0 h1; rw [IntKind.wrap_i64]; omega
  exact (bits_nat .i64 62 (by decide) wr a b ha hb).1
/-- two masks meet where the sets do. -/
theorem mask_meet {zs ks : List Int} {n m : Nat} (hn : zs.length = n) (hm : ks.length = m) (h1 : ∀ k, k < n → 0 ≤ nth zs k ∧ nth zs k < 20) (h2 : ∀ k, k < m → 0 ≤ nth ks k ∧ nth ks k < 20) :
    (zs.any fun f => decide (f ∈ ks)) = decide ((maskN zs n &&& maskN ks m) ≠ 0) := by
  subst hn hm
  have t1 := fun i => mask_test (zs := zs) (i := i) (k := zs.length) (fun j hj => (h1 j hj).1)
  have t2 := fun i => mask_test (zs := ks) (i := i) (k := ks.length) (fun j hj => (h2 j hj).1)
  by_cases hex : ∃ f, f ∈ zs ∧ f ∈ ks
  · obtain ⟨f, hf1, hf2⟩ := hex
    rw [List.any_eq_true.2 ⟨f, hf1, decide_eq_true hf2⟩]
    refine (decide_eq_true ?_).symm
    obtain ⟨j, hj, e1⟩ := mem_nth.1 hf1
    obtain ⟨j2, hj2, e2⟩ := mem_nth.1 hf2
    have hf0 := (h1 j hj).1
    rw [e1] at hf0
    obtain ⟨i, rfl⟩ : ∃ i : Nat, f = i := ⟨f.toNat, by omega⟩
    intro h0
    have h3 : (maskN zs zs.length &&& maskN ks ks.length).testBit i = true := by
      rw [Nat.testBit_and, t1, t2, decide_eq_true ⟨j, hj, e1⟩, decide_eq_true ⟨j2, hj2, e2⟩]; rfl
    rw [h0, Nat.zero_testBit] at h3
    exact absurd h3 (by decide)
  · have hany : (zs.any fun f => decide (f ∈ ks)) = false := by
      rw [List.any_eq_false]
      intro f hf hc
      exact hex ⟨f, hf, of_decide_eq_true hc⟩
    rw [hany]
    refine (decide_eq_false ?_).symm
    intro hc
    refine hc (Nat.eq_of_testBit_eq fun i => ?_)
    rw [Nat.zero_testBit, Nat.testBit_and, t1, t2]
    by_cases ha : ∃ j, j < zs.length ∧ nth zs j = (i : Int)
    · by_cases hb : ∃ j, j < ks.length ∧ nth ks j = (i : Int)
      · exact absurd ⟨(i : Int), mem_nth.2 ha, mem_nth.2 hb⟩ hex
      · rw [decide_eq_false hb, Bool.and_false]
    · rw [decide_eq_false ha, Bool.false_and]
theorem mask_meet2 {g zs : List Int} {n : Nat} (hn : zs.length = n) (h1 : ∀ k, k < n → 0 ≤ nth zs k ∧ nth zs k < 20) (h2 : ∀ k, k < g.length → 0 ≤ nth g k ∧ nth g k < 20) : (zs.any fun f => decide (f ∈ g)) = decide ((mkN g &&& maskN zs n) ≠ 0) := by
  rw [mask_meet hn rfl h1 h2, Nat.and_comm]; rfl
theorem rgp_bd {ss : List ByteArray} {fs : List Q4} (hv : netP ss fs) {g : List Int} (hg : g ∈ rgL fs) : ∀ k, k < g.length → 0 ≤ nth g k ∧ nth g k < 20 := by
  intro k hk
  have h1 := (rgp_eq hg (x := g[k]) (List.getElem_mem hk)).1
  rw [nth_eq hk] at h1
  have := hv.2.1
  omega
theorem mem_bd {ss : List ByteArray} {fs : List Q4} (hv : netP ss fs) {xs : List Int} {n : Nat} (hn : xs.length = n) (h : ∀ x ∈ xs, 0 ≤ x ∧ x < fs.length) : ∀ k, k < n → 0 ≤ nth xs k ∧ nth xs k < 20 := by
  intro k hk
  have h1 := h xs[k] (List.getElem_mem (by omega))
  rw [nth_eq (by omega)] at h1
  have := hv.2.1
  omega
end Go.Proofs.YtflniajjecfgeaaGreatDoor
