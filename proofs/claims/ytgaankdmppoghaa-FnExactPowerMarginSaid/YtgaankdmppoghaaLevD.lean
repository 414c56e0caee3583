/- Contracts: PowerMargin, both sides. No condition but those typed. -/
import Derived.Test.YtgaankdmppoghaaLevC
namespace Go.Proofs.Ytgaankdmppoghaa
open Go.ChangeShapes Go.WideShapes Go.ChangeAt Go.RowKit

theorem own_some {w : World} {B E s n c : Nat} {A : Option Addr} {xs : List Value} (h : w.ownsRow B E s (.slice A n c) n xs) (hn : 0 < n) : ∃ g, A = some ⟨g, 0, none⟩ := by
  rcases h.2 with ⟨hv, h0⟩ | ⟨g, cap, cur, hv, _⟩
  · omega
  · injection hv with hA _ _
    exact ⟨g, hA⟩
theorem mar_of {qs : List Q3} {am : List Q4} {l s : Int} {b b2 b3 : Bool} (h1 : levOk qs am l = b) (h2 : levB s = b2) (h3 : levB (lastI qs am l - s) = b3) : marB qs am l s = (b && b2 && b3) := by unfold marB; rw [h1, h2, h3]

set_option maxHeartbeats 2000000 in
theorem sMar (g1 n1 c1 g2 n2 c2 : Nat) (qs : List Q3) (am : List Q4) (l s : Int) (w : World) (hws : (Lit.int .i64 s).wf = true) (hn1 : qs.length = n1) (hs1 : n1 ≤ 1048576) (hr1 : Rd w w.heap.size (some ⟨g1, 0, none⟩) (qs.flatMap Q3.cells)) (hn2 : am.length = n2) (hs2 : n2 ≤ 1048576) (hr2 : Rd w w.heap.size (some ⟨g2, 0, none⟩) (am.flatMap Q4.cells)) :
    Calls Try.prog 35 #[.slice (some ⟨g1, 0, none⟩) n1 c1, .slice (some ⟨g2, 0, none⟩) n2 c2, .int .i64 l, .int .i64 s] w (RetV (.tuple #[.int .i64 (marI qs am l s), .bool (marB qs am l s)]) w) := by
  have C := Lib.hid (sLevels g1 n1 c1 g2 n2 c2 qs am l w hn1 hs1 hr1 hn2 hs2 hr2)
  clear hn1 hr1 hn2 hr2 hws
  unfold LevAns at C
  have CV := Lib.hid (fun W => sLevel s W)
  obtain ⟨b, hb⟩ : ∃ b, levOk qs am l = b := ⟨_, rfl⟩
  obtain ⟨b2, hb2⟩ : ∃ b, levB s = b := ⟨_, rfl⟩
  rw [hb] at C
  rw [hb2] at CV
  cases b
  case false =>
    have e1 : marB qs am l s = false := mar_of hb hb2 rfl
    rw [mar_no e1, e1]
    clear hb hb2 e1
    go_enter Try.func35, Try.ntmps35
    go_wp2_with fail
    refine C.out.mono ?_
    rintro e w1 ⟨A, c, A', c', rfl, _, _, _, hb1⟩
    go_wp2
    go_ret2
    exact retV rfl hb1
  case true =>
  cases b2
  case false =>
    have e1 : marB qs am l s = false := mar_of hb hb2 rfl
    rw [mar_no e1, e1]
    clear hb hb2 e1
    go_enter Try.func35, Try.ntmps35
    go_wp2_with fail
    refine C.out.mono ?_
    rintro e w1 ⟨A, c, A', c', rfl, _, _, _, hb1⟩
    go_wp2_with fail
    refine (CV.out _).mono ?_
    rintro e w' ⟨rfl, rfl⟩
    go_wp2
    go_ret2
    exact retV rfl hb1
  case true =>
  obtain ⟨en, n0, n12, hla, la0, la1⟩ := lev_last hb
  obtain ⟨s0, s1⟩ := levB_yes hb2
  obtain ⟨la, hla_⟩ : ∃ x, lastI qs am l = x := ⟨_, rfl⟩
  have CW := Lib.hid (fun W => sLevel (la - s) W)
  obtain ⟨b3, hb3⟩ : ∃ b, levB (la - s) = b := ⟨_, rfl⟩
  have e1 : marB qs am l s = b3 := (mar_of (b3 := b3) hb hb2 (by rw [hla_]; exact hb3)).trans (by simp)
  have e2 : marI qs am l s = if b3 then la - s else 0 := by unfold marI; rw [e1, hla_]
  rw [e1, e2]
  rw [hb3] at CW
  rw [hla_] at hla la0 la1
  rw [en] at C
  obtain ⟨n, hn⟩ : ∃ n, qs.length = n := ⟨_, rfl⟩
  rw [hn] at C hla n0 n12
  have HLA := Lib.hid hla
  clear hb hb2 hb3 e1 e2 en hla_ hla hn
  cases b3
  all_goals
    first | rw [if_pos rfl] | rw [if_neg Bool.false_ne_true]
    go_enter Try.func35, Try.ntmps35
    go_wp2_with fail
    refine C.out.mono ?_
    rintro e w1 ⟨A, c, A', c', rfl, _, ho, _, hb1⟩
    obtain ⟨g, rfl⟩ := own_some ho (by omega)
    have f0 := ho.cellAt (n - 1) (by omega)
    rw [List.getElem?_map, HLA.out] at f0
    simp only [Option.map_some] at f0
    have HB := Lib.hid hb1
    clear ho hb1
    go_wp2_with fail
    refine (CV.out _).mono ?_
    rintro e w' ⟨rfl, rfl⟩
    go_wp2_with fail
    refine (CW.out _).mono ?_
    rintro e w' ⟨rfl, rfl⟩
    go_wp2
    go_ret2
    exact retV rfl HB.out

set_option maxHeartbeats 2000000 in
theorem iMar (g1 n1 c1 g2 n2 : Nat) (qs : List Q3) (am : List Q4) (l s : Int) (w : World) (hws : (Lit.int .i64 s).wf = true) (hn1 : qs.length = n1) (hs1 : n1 ≤ 1048576) (hr1 : Rd w w.heap.size (some ⟨g1, 0, none⟩) (qs.flatMap Q3.cells)) (hn2 : am.length = n2) (hs2 : n2 ≤ 1048576) (hr2 : Rd w w.heap.size (some ⟨g2, 0, none⟩) (am.flatMap Q4.cells)) :
    Calls Try.prog 36 #[.slice (some ⟨g1, 0, none⟩) n1 c1, .slice (some ⟨g2, 0, none⟩) n2 n2, .int .i64 l, .int .i64 s] w (RetV (.tuple #[.int .i64 (marI qs am l s), .bool (marB qs am l s)]) w) := by
  have C := Lib.hid (iLevels_ g1 n1 c1 g2 n2 qs am l w hn1 hs1 hr1 hn2 hs2 hr2)
  clear hn1 hr1 hn2 hr2 hws
  unfold LevAns at C
  have CV : Hid (∀ (W : World) (g c : Nat), Rd W W.heap.size (some ⟨g, 0, none⟩) ([s].map (Value.int .i64)) → Calls Try.prog 59 #[.slice (some ⟨g, 0, none⟩) 1 c] W (RetV (.bool (levB s)) W)) := Lib.hid (fun W g c h => iLevel1 s h)
  obtain ⟨b, hb⟩ : ∃ b, levOk qs am l = b := ⟨_, rfl⟩
  obtain ⟨b2, hb2⟩ : ∃ b, levB s = b := ⟨_, rfl⟩
  rw [hb] at C
  rw [hb2] at CV
  cases b
  case false =>
    have e1 : marB qs am l s = false := mar_of hb hb2 rfl
    rw [mar_no e1, e1]
    clear hb hb2 e1
    go_enter Try.func36, Try.ntmps36
    go_wp2_with fail
    refine C.out.mono ?_
    rintro e w1 ⟨A, c, A', c', rfl, _, _, _, hb1⟩
    go_wp2
    go_ret2
    exact retV rfl hb1
  case true =>
  cases b2
  case false =>
    have e1 : marB qs am l s = false := mar_of hb hb2 rfl
    rw [mar_no e1, e1]
    clear hb hb2 e1
    go_enter Try.func36, Try.ntmps36
    go_wp2_with fail
    refine C.out.mono ?_
    rintro e w1 ⟨A, c, A', c', rfl, _, _, _, hb1⟩
    go_wp2_with fail
    refine (CV.out _ _ _ (rd_i1 (by simp) s _)).mono ?_
    rintro e w2 ⟨rfl, hb2⟩
    go_wp2
    go_ret2
    exact retV rfl ((hb1.alloc hb1.size _).trans (hb2.mono (by have := hb1.size; simp; omega)))
  case true =>
  obtain ⟨en, n0, n12, hla, la0, la1⟩ := lev_last hb
  obtain ⟨s0, s1⟩ := levB_yes hb2
  obtain ⟨la, hla_⟩ : ∃ x, lastI qs am l = x := ⟨_, rfl⟩
  have CW : Hid (∀ (W : World) (g c : Nat), Rd W W.heap.size (some ⟨g, 0, none⟩) ([la - s].map (Value.int .i64)) → Calls Try.prog 59 #[.slice (some ⟨g, 0, none⟩) 1 c] W (RetV (.bool (levB (la - s))) W)) := Lib.hid (fun W g c h => iLevel1 (la - s) h)
  obtain ⟨b3, hb3⟩ : ∃ b, levB (la - s) = b := ⟨_, rfl⟩
  have e1 : marB qs am l s = b3 := (mar_of (b3 := b3) hb hb2 (by rw [hla_]; exact hb3)).trans (by simp)
  have e2 : marI qs am l s = if b3 then la - s else 0 := by unfold marI; rw [e1, hla_]
  rw [e1, e2]
  rw [hb3] at CW
  rw [hla_] at hla la0 la1
  rw [en] at C
  obtain ⟨n, hn⟩ : ∃ n, qs.length = n := ⟨_, rfl⟩
  rw [hn] at C hla n0 n12
  have HLA := Lib.hid hla
  clear hb hb2 hb3 e1 e2 en hla_ hla hn
  cases b3
  all_goals
    first | rw [if_pos rfl] | rw [if_neg Bool.false_ne_true]
    go_enter Try.func36, Try.ntmps36
    go_wp2_with fail
    refine C.out.mono ?_
    rintro e w1 ⟨A, c, A', c', rfl, _, ho, _, hb1⟩
    obtain ⟨g, rfl⟩ := own_some ho (by omega)
    have f0 := ho.cellAt (n - 1) (by omega)
    rw [List.getElem?_map, HLA.out] at f0
    simp only [Option.map_some] at f0
    have HF := Lib.hid f0
    have hgl := (ho.lt g rfl).2
    have HB := Lib.hid hb1
    clear ho hb1 f0
    go_wp2_with fail
    refine (CV.out _ _ _ (rd_i1 (by simp) s _)).mono ?_
    rintro e w2 ⟨rfl, hb2⟩
    have HB2 := Lib.hid ((HB.out.alloc HB.out.size (Obj.cells #[.int .i64 s] 3)).trans (hb2.mono (by have := HB.out.size; simp; omega)))
    have f0 : w2.cell? ⟨g, n - 1, none⟩ = some (.int .i64 la) := (hb2.cell (p := ⟨g, n - 1, none⟩) (by simp; omega)).trans (by rw [World.cell?_alloc_lt (h := hgl)]; exact HF.out)
    clear hb2
    go_wp2_with fail
    refine (CW.out _ _ _ (rd_i1 (by simp) (la - s) _)).mono ?_
    rintro e w3 ⟨rfl, hb3⟩
    have HB3 := Lib.hid ((HB2.out.alloc HB2.out.size (Obj.cells #[.int .i64 (la - s)] 3)).trans (hb3.mono (by have := HB2.out.size; simp; omega)))
    clear hb3 f0
    go_wp2
    go_ret2
    exact retV rfl HB3.out
end Go.Proofs.Ytgaankdmppoghaa
