/- Contracts: PowerProfile and PowerMargin, both sides. No condition but those typed. -/
import Derived.Test.YtgaankdmppoghaaLevB
namespace Go.Proofs.Ytgaankdmppoghaa
open Go.ChangeShapes Go.WideShapes Go.ChangeAt Go.RowKit

def ProAns (qs : List Q3) (am : List Q4) (l : Int) (w : World) : Ending → World → Prop :=
  Ans1 3 1 ((aftA qs am l).map (Value.int .i64)) (aftA qs am l).length (fun v => .tuple #[v, .bool (levOk qs am l)]) w
theorem aft_bd (qs : List Q3) (am : List Q4) (l : Int) : (aftA qs am l).length ≤ 1048576 := by
  unfold aftA levOk argB
  cases h : lineB qs with
  | false => simp
  | true =>
    have := (lineB_true h).1
    split
    · rw [aftL_len]; omega
    · simp
theorem sPro (g1 n1 c1 g2 n2 c2 : Nat) (qs : List Q3) (am : List Q4) (l : Int) (w : World) (hn1 : qs.length = n1) (hs1 : n1 ≤ 1048576) (hr1 : Rd w w.heap.size (some ⟨g1, 0, none⟩) (qs.flatMap Q3.cells)) (hn2 : am.length = n2) (hs2 : n2 ≤ 1048576) (hr2 : Rd w w.heap.size (some ⟨g2, 0, none⟩) (am.flatMap Q4.cells)) :
    Calls Try.prog 22 #[.slice (some ⟨g1, 0, none⟩) n1 c1, .slice (some ⟨g2, 0, none⟩) n2 c2, .int .i64 l] w (ProAns qs am l w) := by
  have C := Lib.hid (sLevels g1 n1 c1 g2 n2 c2 qs am l w hn1 hs1 hr1 hn2 hs2 hr2)
  clear hn1 hr1 hn2 hr2
  unfold ProAns
  unfold LevAns at C
  obtain ⟨b, hb⟩ : ∃ b, levOk qs am l = b := ⟨_, rfl⟩
  rw [hb] at C ⊢
  clear hb
  go_enter Try.func22, Try.ntmps22
  go_wp2_with fail
  refine C.out.mono ?_
  rintro e w1 ⟨A, c, A', c', rfl, ho, ho', ha, hb1⟩
  have HO := Lib.hid ho'; have HB := Lib.hid hb1
  clear ho ho' ha hb1
  go_wp2
  go_ret2
  exact ⟨A', c', rfl, HO.out, HB.out⟩
theorem iPro (g1 n1 c1 g2 n2 : Nat) (qs : List Q3) (am : List Q4) (l : Int) (w : World) (hn1 : qs.length = n1) (hs1 : n1 ≤ 1048576) (hr1 : Rd w w.heap.size (some ⟨g1, 0, none⟩) (qs.flatMap Q3.cells)) (hn2 : am.length = n2) (hs2 : n2 ≤ 1048576) (hr2 : Rd w w.heap.size (some ⟨g2, 0, none⟩) (am.flatMap Q4.cells)) :
    Calls Try.prog 25 #[.slice (some ⟨g1, 0, none⟩) n1 c1, .slice (some ⟨g2, 0, none⟩) n2 n2, .int .i64 l] w (ProAns qs am l w) := by
  have C := Lib.hid (iLevels_ g1 n1 c1 g2 n2 qs am l w hn1 hs1 hr1 hn2 hs2 hr2)
  clear hn1 hr1 hn2 hr2
  unfold ProAns
  unfold LevAns at C
  obtain ⟨b, hb⟩ : ∃ b, levOk qs am l = b := ⟨_, rfl⟩
  rw [hb] at C ⊢
  clear hb
  go_enter Try.func25, Try.ntmps25
  go_wp2_with fail
  refine C.out.mono ?_
  rintro e w1 ⟨A, c, A', c', rfl, ho, ho', ha, hb1⟩
  have HO := Lib.hid ho'; have HB := Lib.hid hb1
  clear ho ho' ha hb1
  go_wp2
  go_ret2
  exact ⟨A', c', rfl, HO.out, HB.out⟩

/-- the last level. -/
def lastI (qs : List Q3) (am : List Q4) (l : Int) : Int := (lvS qs am l qs.length).1
def marB (qs : List Q3) (am : List Q4) (l s : Int) : Bool := levOk qs am l && levB s && levB (lastI qs am l - s)
def marI (qs : List Q3) (am : List Q4) (l s : Int) : Int := if marB qs am l s then lastI qs am l - s else 0
theorem mar_no {qs : List Q3} {am : List Q4} {l s : Int} (h : marB qs am l s = false) : marI qs am l s = 0 := by unfold marI; rw [h]; rfl
theorem mar_yes {qs : List Q3} {am : List Q4} {l s : Int} (h : marB qs am l s = true) : marI qs am l s = lastI qs am l - s := by unfold marI; rw [h]; rfl
/-- where the levels are fine: at least one, at most twelve; the last one. -/
theorem lev_last {qs : List Q3} {am : List Q4} {l : Int} (h : levOk qs am l = true) : (aftA qs am l).length = qs.length ∧ 1 ≤ qs.length ∧ qs.length ≤ 12 ∧ (aftA qs am l)[qs.length - 1]? = some (lastI qs am l) ∧ -10000 ≤ lastI qs am l ∧ lastI qs am l ≤ 10000 := by
  have h0 := h
  unfold levOk argB at h
  simp only [Bool.and_eq_true, List.all_eq_true, List.mem_range] at h
  obtain ⟨⟨⟨h1, h2⟩, h3⟩, h4⟩ := h
  obtain ⟨l1, l2⟩ := (lineB_true h1).1
  have hb := (lv_bd (k := qs.length) ⟨h1, ampsB_true h2, h3⟩ (Nat.le_refl _) (fun j hj => h4 j hj)).1
  refine ⟨by rw [(lev_some h0).2, aftL_len], l1, l2, ?_, hb.1, hb.2⟩
  rw [(lev_some h0).2]
  unfold aftL lastI
  rw [List.getElem?_map, List.getElem?_range (by omega)]
  simp only [Option.map_some]
  rw [Nat.sub_add_cancel l1]
end Go.Proofs.Ytgaankdmppoghaa
