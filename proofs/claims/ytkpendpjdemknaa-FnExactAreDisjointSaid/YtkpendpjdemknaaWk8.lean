/- Routes: the fibers of a walk, in memory of the call's own: a contract of the implementation. No condition but those typed. -/
import Derived.Test.YtkpendpjdemknaaGB
namespace Go.Proofs.Ytkpendpjdemknaa
open Go.ChangeShapes Go.WideShapes Go.ChangeAt Go.RowKit

set_option maxRecDepth 100000 in
set_option maxHeartbeats 4000000 in
theorem fibers_ {fs : List Q4} {xs ns : List Int} {g : Nat} (w : World) (h : Lk fs w g xs ns) (hx : xs.length ≤ 1048576) :
    Calls Try.prog 150 #[.pointer (some ⟨g, 0, none⟩)] w fun e w' => ∃ gN, e = .returned (.slice (some ⟨gN, 0, none⟩) xs.length xs.length) ∧
      w'.ownsRow w.heap.size 3 1 (.slice (some ⟨gN, 0, none⟩) xs.length xs.length) xs.length (xs.reverse.map (Value.int .i64)) ∧ Below w.heap.size w w' := by
  obtain ⟨i0, hi, hz0_, hz1_, hz2_⟩ := info_parts Try.inf_int
  have HI := Lib.hid hi; have HZ0 := Lib.hid hz0_; have HZ1 := Lib.hid hz1_; have HZ2 := Lib.hid hz2_
  clear hi hz0_ hz1_ hz2_
  have HH := Lib.hid h
  obtain ⟨nd, tl, la, p, _, hh, _⟩ := h.see
  obtain ⟨M, hm⟩ : ∃ m, xs.length = m := ⟨_, rfl⟩
  rw [hm] at hh hx ⊢
  have HM := Lib.hid hm
  obtain ⟨f0, f1, f2, f3, f4⟩ := five_cells hh
  clear h hh hm f0 f1 f3 f4
  go_enter Try.func150, Try.ntmps150
  go_wp2_with (at_make; refine wpList_make_full _ rfl _ _ 47 rfl w.heap.size 3 i0 (.int .i64 0) 1 Try.underlying47 HI.out HZ0.out HZ1.out .i64 .i64 _ _ M rfl rfl rfl rfl (by rw [HZ2.out]; omega) (by unfold maxLen; omega) (Nat.le_refl _) ?_)
  intro w2 hown hgrow
  have HB2 : Hid (Below w.heap.size w w2) := Lib.hid ((Below.refl _ _).grown hgrow (Nat.le_refl _) (fun k h => by cases h))
  rw [toList_madeCells_one] at hown
  have HO2 := Lib.hid hown
  clear hgrow hown f2
  go_wp2
  go_loopg [4] M (fun k p wr => ∃ (g' : Nat) (pre xs' ns' : List Int), p = .pointer (some ⟨g', 0, none⟩) ∧ Hid (xs = pre ++ xs' ∧ xs'.length = k) ∧ Hid (wr.ownsRow w.heap.size 3 1 (.slice (some ⟨w.heap.size, 0, none⟩) M M) M (List.replicate xs'.length (Value.int .i64 0) ++ pre.reverse.map (Value.int .i64))) ∧ Below w.heap.size w wr ∧ Hid (Lk fs w g' xs' ns'))
  case atStart => exact ⟨g, [], xs, ns, rfl, Lib.hid ⟨rfl, HM.out⟩, Lib.hid (by rw [HM.out]; simpa using HO2.out), HB2.out, HH⟩
  case round =>
    obtain ⟨g', pre, xs', ns', rfl, HP, HO, hb, hl⟩ := hrel
    have hl2 := hl.out
    have hgl := hl2.lt
    obtain ⟨nd, tl, la, p, e1, hh, hp⟩ := hl2.see
    obtain ⟨cn, hcn⟩ : ∃ cn, xs'.length = cn := ⟨_, rfl⟩
    rw [hcn] at hh
    obtain ⟨f0, f1, f2, f3, f4⟩ := five_cells ((hb.block g' hgl).trans hh)
    rcases hp with ⟨rfl, hxs, _⟩ | ⟨g2, x, xs2, rfl, hxs, hxl, hl3⟩
    · have HF : Hid (wr.ownsRow w.heap.size 3 1 (.slice (some ⟨w.heap.size, 0, none⟩) M M) M (xs.reverse.map (Value.int .i64))) := Lib.hid (by
        have h1 := HO.out
        have h2 := HP.out.1
        rw [hxs] at h1 h2
        rw [List.append_nil] at h2
        rw [← h2] at h1
        simpa using h1)
      clear hxs hcn hh e1 hl2
      go_wp2
      go_ret
      exact ⟨_, rfl, HF.out, hb⟩
    · subst hxl
      have HL3 := Lib.hid hl3
      obtain ⟨j, hj⟩ : ∃ j, xs2.length = j := ⟨_, rfl⟩
      have hcj : cn = j + 1 := by rw [hxs, List.length_cons] at hcn; omega
      have hjM : j < M := by
        have h1 := congrArg List.length HP.out.1
        rw [List.length_append] at h1
        have h2 := HM.out
        omega
      have hwj : IntKind.i64.wrap ((cn : Int) - 1) = (j : Int) := by rw [IntWalk.i64_in _ (by omega)]; omega
      have ho := HO.out
      rw [hcn, hcj] at ho
      have hold := ho.cellAt j (by omega)
      rw [List.getElem?_append_left (by simp), List.getElem?_replicate, if_pos (by omega)] at hold
      have hfz := ho.frozenAt j
      have hst := (ho.stored j (.int .i64 x)).1
      rw [rep_set] at hst
      have hneg : ¬ g' = w.heap.size := by omega
      have hsz0 := hb.size
      have HBS := Lib.hid (hb.setCell (p := ⟨w.heap.size, j, none⟩) (Nat.le_refl _) (.int .i64 x))
      have HGK : Hid (gk = j + 1) := Lib.hid (by have := HP.out.2; omega)
      have HPRE : Hid (xs = (pre ++ [x]) ++ xs2 ∧ xs2.length = j) := Lib.hid ⟨by rw [HP.out.1, hxs]; simp, hj⟩
      have HROW : Hid (∀ W : World, W.heap = (wr.setCell ⟨w.heap.size, j, none⟩ (.int .i64 x)).heap → W.ownsRow w.heap.size 3 1 (.slice (some ⟨w.heap.size, 0, none⟩) M M) M (List.replicate xs2.length (Value.int .i64 0) ++ (pre ++ [x]).reverse.map (Value.int .i64))) := Lib.hid (fun W hW => by
        refine own_heapW hW ?_
        simpa [hj] using hst)
      clear hh hcn hxs e1 hl2 ho hst hj hl3 hcj
      have hdr : ∀ t d o u p, ({ heap := wr.heap, tape := t, drawn := d, os := o, output := u } : World).cell? p = wr.cell? p := fun _ _ _ _ _ => rfl
      go_wp2
      go_still_tail 11, (by kernel_rfl)
      change wpList _ _ _ _ _ wr.drew
      clear hdr
      go_wp2
      go_roundg j
      case measure => have := HGK.out; omega
      case rel => exact ⟨g2, pre ++ [x], xs2, _, rfl, HPRE, Lib.hid (HROW.out _ rfl), HBS.out.drew, HL3⟩

end Go.Proofs.Ytkpendpjdemknaa
