/- Routes: their nodes: contracts of the specification and of the implementation. No condition but those typed. -/
import Derived.Test.YtcbjdfgmkiodkaaWk6
namespace Go.Proofs.Ytcbjdfgmkiodkaa
open Go.ChangeShapes Go.WideShapes Go.ChangeAt Go.RowKit

/-- an int list of the call's own. -/
def IntsO (zs : List Int) (w : World) (e : Ending) (w' : World) : Prop :=
  ∃ (A : Option Addr) (N c : Nat), e = .returned (.slice A N c) ∧ Hid (N = zs.length) ∧ w'.ownsRow w.heap.size 3 1 (.slice A N c) N (zs.map (Value.int .i64)) ∧ Below w.heap.size w w'
noncomputable def rnodL (ss : List ByteArray) (fs : List Q4) (st : Int) (fl : List Int) : List Int := if routeB ss fs st fl then ((routeN ss.length fs st fl).getD []).reverse else []
theorem rnod_no {ss : List ByteArray} {fs : List Q4} {st : Int} {fl : List Int} (h : routeB ss fs st fl = false) : rnodL ss fs st fl = [] := by unfold rnodL; rw [h]; rfl
theorem rnod_yes {ss : List ByteArray} {fs : List Q4} {st : Int} {fl vs : List Int} (h : routeB ss fs st fl = true) (hv : routeN ss.length fs st fl = some vs) : rnodL ss fs st fl = vs.reverse := by
  unfold rnodL; rw [h, hv]; rfl
theorem rnod_len (ss : List ByteArray) (fs : List Q4) (st : Int) (fl : List Int) : (rnodL ss fs st fl).length ≤ fl.length + 1 := by
  cases h : routeB ss fs st fl with
  | false => rw [rnod_no h]; simp
  | true =>
    obtain ⟨_, vs, hv⟩ := routeB_yes h
    rw [rnod_yes h hv, List.length_reverse, routeN_len hv]
    exact Nat.le_refl _
theorem rnod_bd {ss : List ByteArray} {fs : List Q4} {st : Int} {fl : List Int} (h : ss.length + fl.length ≤ 1048576) : (rnodL ss fs st fl).length ≤ 1048576 := by
  cases hb : routeB ss fs st fl with
  | false => rw [rnod_no hb]; simp
  | true =>
    have h1 := rnod_len ss fs st fl
    have h2 := (routeB_yes hb).1.1.1
    omega
theorem ints_nil (w : World) (b : Bool) : IntsP [] b w (.returned (.tuple #[.slice none 0 0, .bool b])) w := ⟨none, 0, 0, rfl, Lib.hid rfl, World.ownsRow_nil _ _ _ _, Below.refl _ _⟩
theorem ints_nilB {w w' : World} (b : Bool) (hb : Below w.heap.size w w') : IntsP [] b w (.returned (.tuple #[.slice none 0 0, .bool b])) w' := ⟨none, 0, 0, rfl, Lib.hid rfl, World.ownsRow_nil _ _ _ _, hb⟩

set_option maxRecDepth 100000 in
set_option maxHeartbeats 4000000 in
theorem l4Nodes_ {g1 g2 n1 n2 c1 c2 : Nat} {ss : List ByteArray} {fs : List Q4} {w : World} (h : NetAt g1 g2 n1 n2 c1 c2 ss fs w) (hv : netP ss fs) (st : Int)
    {A : Option Addr} {n c : Nat} {fl : List Int} (hn : fl.length = n) (hr : Rd w w.heap.size A (fl.map (Value.int .i64))) (hx : n ≤ 1048576) {vs : List Int} (hvs : routeN n1 fs st fl = some vs) :
    Calls Try.prog 235 #[.agg #[.slice (some ⟨g1, 0, none⟩) n1 c1, .slice (some ⟨g2, 0, none⟩) n2 c2], .agg #[.int .i64 st, .slice A n c]] w (IntsO vs.reverse w) := by
  have HN := Lib.hid hn; have HNT := Lib.hid h; have HR := Lib.hid hr; have HV := Lib.hid hv; have HVS := Lib.hid hvs
  clear hn h hr hv hvs
  go_enter Try.func235, Try.ntmps235
  go_wp2_with fail
  obtain ⟨W0, hW0⟩ : ∃ W0, (w.alloc (Obj.cells #[.slice (some ⟨g1, 0, none⟩) n1 c1, .slice (some ⟨g2, 0, none⟩) n2 c2] 32)).alloc (Obj.cells #[.int .i64 st, .slice A n c] 45) = W0 := ⟨_, rfl⟩
  have hb0 : Below w.heap.size w W0 := by rw [← hW0]; exact ((Below.refl _ _).alloc (Nat.le_refl _) _).alloc (by simp) _
  have k0 : W0.cell? ⟨w.heap.size, 0, none⟩ = some (.slice (some ⟨g1, 0, none⟩) n1 c1) := by rw [← hW0]; simp [go_sem]
  have k1 : W0.cell? ⟨w.heap.size, 1, none⟩ = some (.slice (some ⟨g2, 0, none⟩) n2 c2) := by rw [← hW0]; simp [go_sem]
  have k2 : W0.cell? ⟨w.heap.size + 1, 0, none⟩ = some (.int .i64 st) := by rw [← hW0]; simp [go_sem]
  have k3 : W0.cell? ⟨w.heap.size + 1, 1, none⟩ = some (.slice A n c) := by rw [← hW0]; simp [go_sem]
  have hz0 : w.heap.size + 1 < W0.heap.size := by rw [← hW0]; simp
  have HB0 := Lib.hid hb0; have HK0 := Lib.hid k0; have HK1 := Lib.hid k1; have HK2 := Lib.hid k2; have HK3 := Lib.hid k3; have HZ0 := Lib.hid hz0
  rw [hW0]
  clear hW0 hb0 k0 k1 k2 k3 hz0
  refine (l4Walk_ (c := c) (HNT.out.moved HB0.out) HV.out st HN.out (HR.out.moved HB0.out) hx).mono ?_
  rintro e w1 ⟨hb1, B, N, cc, h2⟩
  have HB1 := Lib.hid (HB0.out.trans (hb1.mono HB0.out.size))
  have HZS := Lib.hid HB0.out.size
  clear hb1
  rcases h2 with ⟨hs, _⟩ | ⟨us, hs, rfl, hN, ho⟩
  · rw [HVS.out] at hs
    exact absurd hs (by simp)
  · rw [HVS.out] at hs
    injection hs with hs
    subst hs
    have HO := Lib.hid (own_base ho (HZS.out))
    have HNN : Hid (N = vs.reverse.length) := Lib.hid (by rw [List.length_reverse]; exact hN)
    clear ho hN
    go_wp2
    go_ret
    exact ⟨B, N, cc, rfl, HNN, HO.out, HB1.out⟩

theorem own_heapW {w w' : World} {B E s n : Nat} {v : Value} {xs : List Value} (e : w'.heap = w.heap) (h : w.ownsRow B E s v n xs) : w'.ownsRow B E s v n xs := by
  refine ⟨h.1, ?_⟩
  rw [e]
  exact h.2
theorem rep_set (m : Nat) (v : Value) (l : List Value) (z : Value) : (List.replicate (m + 1) z ++ l).set m v = List.replicate m z ++ v :: l := by
  rw [List.set_append_left _ _ (by simp), List.replicate_succ', List.set_append_right _ _ (by simp)]
  simp
set_option maxRecDepth 100000 in
set_option maxHeartbeats 4000000 in
theorem nodes_ {fs : List Q4} {xs ns : List Int} {g : Nat} (w : World) (h : Lk fs w g xs ns) (hx : xs.length ≤ 1048576) :
    Calls Try.prog 192 #[.pointer (some ⟨g, 0, none⟩)] w fun e w' => ∃ gN, e = .returned (.slice (some ⟨gN, 0, none⟩) (xs.length + 1) (xs.length + 1)) ∧
      w'.ownsRow w.heap.size 3 1 (.slice (some ⟨gN, 0, none⟩) (xs.length + 1) (xs.length + 1)) (xs.length + 1) (ns.reverse.map (Value.int .i64)) ∧ Below w.heap.size w w' := by
  obtain ⟨i0, hi, hz0_, hz1_, hz2_⟩ := info_parts Try.inf_int
  have HI := Lib.hid hi; have HZ0 := Lib.hid hz0_; have HZ1 := Lib.hid hz1_; have HZ2 := Lib.hid hz2_
  clear hi hz0_ hz1_ hz2_
  have HH := Lib.hid h
  have HLN := Lib.hid h.len
  obtain ⟨nd, tl, la, p, _, hh, _⟩ := h.see
  obtain ⟨m, hm⟩ : ∃ m, xs.length = m := ⟨_, rfl⟩
  rw [hm] at hh hx ⊢
  have HM := Lib.hid hm
  obtain ⟨f0, f1, f2, f3, f4⟩ := five_cells hh
  have e1 : IntKind.i64.wrap ((m : Int) + 1) = (m : Int) + 1 := IntWalk.i64_in _ (by omega)
  obtain ⟨M, hMM⟩ : ∃ M, m + 1 = M := ⟨_, rfl⟩
  have hMi : (m : Int) + 1 = (M : Int) := by omega
  have HMM := Lib.hid hMM
  rw [hMM]
  clear h hh hm hMM f0 f1 f3 f4
  go_enter Try.func192, Try.ntmps192
  go_wp2_with (at_make; refine wpList_make_full _ rfl _ _ 39 rfl w.heap.size 3 i0 (.int .i64 0) 1 Try.underlying39 HI.out HZ0.out HZ1.out .i64 .i64 _ _ M rfl rfl rfl rfl (by rw [HZ2.out]; omega) (by unfold maxLen; omega) (Nat.le_refl _) ?_)
  intro w2 hown hgrow
  have HB2 : Hid (Below w.heap.size w w2) := Lib.hid ((Below.refl _ _).grown hgrow (Nat.le_refl _) (fun k h => by cases h))
  rw [toList_madeCells_one] at hown
  have HO2 := Lib.hid hown
  clear hgrow hown hMi e1 f2
  go_wp2
  go_loopg [4] M (fun k p wr => ∃ (q : Option Addr) (pre ns' : List Int), p = .pointer q ∧ Hid (ns = pre ++ ns' ∧ ns'.length = k) ∧ Hid (wr.ownsRow w.heap.size 3 1 (.slice (some ⟨w.heap.size, 0, none⟩) M M) M (List.replicate ns'.length (Value.int .i64 0) ++ pre.reverse.map (Value.int .i64))) ∧ Below w.heap.size w wr ∧
    ((q = none ∧ Hid (ns' = [])) ∨ ∃ g' xs', q = some ⟨g', 0, none⟩ ∧ Hid (Lk fs w g' xs' ns')))
  case atStart => exact ⟨_, [], ns, rfl, Lib.hid ⟨rfl, by rw [HLN.out, HM.out, HMM.out]⟩, Lib.hid (by rw [HLN.out, HM.out, HMM.out]; simpa using HO2.out), HB2.out, .inr ⟨g, xs, rfl, HH⟩⟩
  case round =>
    obtain ⟨q, pre, ns', rfl, HP, HO, hb, hq⟩ := hrel
    rcases hq with ⟨rfl, hn⟩ | ⟨g', xs', rfl, hl⟩
    · have HF : Hid (wr.ownsRow w.heap.size 3 1 (.slice (some ⟨w.heap.size, 0, none⟩) M M) M (ns.reverse.map (Value.int .i64))) := Lib.hid (by
        have h1 := HO.out
        have h2 := HP.out.1
        rw [hn.out] at h1 h2
        rw [List.append_nil] at h2
        rw [← h2] at h1
        simpa using h1)
      clear hn
      go_wp2
      go_ret
      exact ⟨_, rfl, HF.out, hb⟩
    · have hl2 := hl.out
      have hlen := hl2.len
      obtain ⟨nd, tl, la, p, e1, hh, hp⟩ := hl2.see
      have HP2 := Lib.hid hp
      have HE1 := Lib.hid e1
      have hgl := hl2.lt
      obtain ⟨j, hj⟩ : ∃ j, xs'.length = j := ⟨_, rfl⟩
      rw [hj] at hh hlen
      obtain ⟨f0, f1, f2, f3, f4⟩ := five_cells ((hb.block g' hgl).trans hh)
      have hnl : ns.length = M := by rw [HLN.out, HM.out, HMM.out]
      have hjM : j < M := by
        have := congrArg List.length HP.out.1
        rw [List.length_append] at this
        omega
      have ho := HO.out
      rw [hlen] at ho
      have hold := ho.cellAt j (by omega)
      rw [List.getElem?_append_left (by simp), List.getElem?_replicate, if_pos (by omega)] at hold
      have hfz := ho.frozenAt j
      have hst := (ho.stored j (.int .i64 nd)).1
      rw [rep_set] at hst
      have HST := Lib.hid hst
      have htl : tl.length = j := by have := hlen; rw [e1, List.length_cons] at this; omega
      have HTL := Lib.hid htl
      have hneg : ¬ g' = w.heap.size := by omega
      have hsz0 := hb.size
      have HBS := Lib.hid (hb.setCell (p := ⟨w.heap.size, j, none⟩) (Nat.le_refl _) (.int .i64 nd))
      have HGK : Hid (gk = j + 1) := Lib.hid (by have := HP.out.2; omega)
      have HPRE : Hid (ns = (pre ++ [nd]) ++ tl ∧ tl.length = j) := Lib.hid ⟨by rw [HP.out.1, e1]; simp, htl⟩
      have HROW : Hid (∀ W : World, W.heap = (wr.setCell ⟨w.heap.size, j, none⟩ (.int .i64 nd)).heap → W.ownsRow w.heap.size 3 1 (.slice (some ⟨w.heap.size, 0, none⟩) M M) M (List.replicate tl.length (Value.int .i64 0) ++ (pre ++ [nd]).reverse.map (Value.int .i64))) := Lib.hid (fun W hW => by
        have h3 := hst
        rw [← htl] at h3
        refine own_heapW hW ?_
        simpa [htl] using hst)
      clear hh hlen e1 hp hl2 ho hst htl hj hnl
      have hdr : ∀ t d o u p, ({ heap := wr.heap, tape := t, drawn := d, os := o, output := u } : World).cell? p = wr.cell? p := fun _ _ _ _ _ => rfl
      go_wp2
      go_still_tail 10, (by kernel_rfl)
      change wpList _ _ _ _ _ wr.drew
      clear hdr
      rcases HP2.out with ⟨rfl, _, ht⟩ | ⟨g2, x, xs2, rfl, hx2, _, hl3⟩
      · have HT0 := Lib.hid ht
        clear ht
        go_wp2
        go_roundg j
        case measure => have := HGK.out; omega
        case rel => exact ⟨none, pre ++ [nd], tl, rfl, HPRE, Lib.hid (HROW.out _ rfl), HBS.out.drew, .inl ⟨rfl, HT0⟩⟩
      · have HL3 := Lib.hid hl3
        clear hx2 hl3
        go_wp2
        go_roundg j
        case measure => have := HGK.out; omega
        case rel => exact ⟨_, pre ++ [nd], tl, rfl, HPRE, Lib.hid (HROW.out _ rfl), HBS.out.drew, .inr ⟨g2, xs2, rfl, HL3⟩⟩

end Go.Proofs.Ytcbjdfgmkiodkaa
