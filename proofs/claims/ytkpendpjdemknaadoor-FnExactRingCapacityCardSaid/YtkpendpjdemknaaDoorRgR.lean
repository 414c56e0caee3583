/- Rings: IsRing and RingNodes: contracts of both sides. No condition but those typed. -/
import Derived.Test.YtkpendpjdemknaaDoorRgG
import Derived.Test.YtkpendpjdemknaaDoorRgI
import Derived.Test.YtkpendpjdemknaaDoorGB
namespace Go.Proofs.YtkpendpjdemknaaDoor
open Go.ChangeShapes Go.WideShapes Go.ChangeAt Go.RowKit

noncomputable def irB (ss : List ByteArray) (fs : List Q4) (fl : List Int) : Bool := (rgQ ss fs fl).isSome
noncomputable def rgnL (ss : List ByteArray) (fs : List Q4) (fl : List Int) : List Int := ((rgQ ss fs fl).getD []).reverse
theorem rgn_len (ss : List ByteArray) (fs : List Q4) (fl : List Int) : (rgnL ss fs fl).length ≤ fl.length := by
  unfold rgnL rgQ
  split
  · cases h : rgI fs fl with
    | none => simp
    | some vs =>
      obtain ⟨f0, mid, last, e, _, h1, _⟩ := rg_some h
      have := walkR_len h1
      rw [e]; simp at this ⊢; omega
  · simp
set_option maxRecDepth 100000 in
set_option maxHeartbeats 4000000 in
theorem l17Nodes_ {g1 g2 n1 n2 c1 c2 : Nat} {ss : List ByteArray} {fs : List Q4} {w : World} (h : NetAt g1 g2 n1 n2 c1 c2 ss fs w) (hv : netP ss fs)
    {A : Option Addr} {n c : Nat} {fl vs : List Int} (hn : fl.length = n) (hr : Rd w w.heap.size A (fl.map (Value.int .i64))) (hx : n ≤ 1048576) (hcp : n ≤ c) (hg : rgI fs fl = some vs) :
    Calls Tryd.prog 54 #[.agg #[.slice (some ⟨g1, 0, none⟩) n1 c1, .slice (some ⟨g2, 0, none⟩) n2 c2], .slice A n c] w (IntsO vs.reverse w) := by
  have HG := Lib.hid hg
  have HV := Lib.hid hv; have HN := Lib.hid hn; have HNT := Lib.hid h; have HR := Lib.hid hr
  have HL1 := Lib.hid h.ln1
  have hs1 := h.sm1
  clear h hv hn hr hg
  go_enter Tryd.func54, Tryd.ntmps54
  go_wp2_with fail
  obtain ⟨W0, hW0⟩ : ∃ W0, w.alloc (Obj.cells #[.slice (some ⟨g1, 0, none⟩) n1 c1, .slice (some ⟨g2, 0, none⟩) n2 c2] 32) = W0 := ⟨_, rfl⟩
  have hb0 : Below w.heap.size w W0 := by rw [← hW0]; exact (Below.refl _ _).alloc (Nat.le_refl _) _
  have k0 : W0.cell? ⟨w.heap.size, 0, none⟩ = some (.slice (some ⟨g1, 0, none⟩) n1 c1) := by rw [← hW0]; simp [go_sem]
  have k1 : W0.cell? ⟨w.heap.size, 1, none⟩ = some (.slice (some ⟨g2, 0, none⟩) n2 c2) := by rw [← hW0]; simp [go_sem]
  have hz0 : w.heap.size < W0.heap.size := by rw [← hW0]; simp
  have HB0 := Lib.hid hb0
  have HK : Hid (∀ u, Below W0.heap.size W0 u → u.cell? ⟨w.heap.size, 0, none⟩ = some (.slice (some ⟨g1, 0, none⟩) n1 c1) ∧ u.cell? ⟨w.heap.size, 1, none⟩ = some (.slice (some ⟨g2, 0, none⟩) n2 c2) ∧ w.heap.size < u.heap.size) := Lib.hid fun u hu => ⟨(hu.cell (p := ⟨w.heap.size, 0, none⟩) hz0).trans k0, (hu.cell (p := ⟨w.heap.size, 1, none⟩) hz0).trans k1, Nat.lt_of_lt_of_le hz0 hu.size⟩
  rw [hW0]
  clear hW0 hb0 k0 k1 hz0
  go_wp2
  go_loopw [5] (fun i wr => ∃ k : Nat, k ≤ n1 ∧ i = .int .i64 (k : Int) ∧ Hid (∀ j : Int, 0 ≤ j → j < k → ∀ us, ¬ okR fs fl j us) ∧ Below W0.heap.size W0 wr) (fun i _ => n1 - (intOf i).toNat)
  case atStart => exact ⟨0, Nat.zero_le _, rfl, Lib.hid (fun j h1 h2 => absurd h2 (by omega)), Below.refl _ _⟩
  case round =>
    obtain ⟨k, hk, rfl, HNO, hb⟩ := hrel
    obtain ⟨q0, q1, q2⟩ := HK.out wr hb
    have HBW := Lib.hid (HB0.out.trans (hb.mono HB0.out.size))
    have HBR := Lib.hid hb
    clear hb
    by_cases hlt : k < n1
    case neg =>
      exfalso
      have := rg_never HV.out (fun j h1 h2 => HNO.out j h1 (by have := HL1.out; omega))
      rw [HG.out] at this
      cases this
    case pos =>
    have hkI : (k : Int) < (n1 : Int) := by omega
    have CW := Lib.hid (l17Walk_ (HNT.out.moved HBW.out) HV.out HN.out (HR.out.moved HBW.out) hx hcp (k : Int))
    clear hlt
    go_wp2_with fail
    refine CW.out.mono ?_
    rintro e w1 ⟨B, N, cc, b, es, rfl, HNE, HOE, HOK, hb1⟩
    have HB1 := Lib.hid (HBR.out.trans (hb1.mono HBR.out.size))
    have HB1W := Lib.hid (HBW.out.trans (hb1.mono HBW.out.size))
    have HSZ := Lib.hid HBW.out.size
    clear hb1 q0 q1 q2
    cases b
    case false =>
      have HNO1 : Hid (∀ j : Int, 0 ≤ j → j < ((k + 1 : Nat) : Int) → ∀ us, ¬ okR fs fl j us) := Lib.hid (fun j h1 h2 us => by
        by_cases hj : j < k
        · exact HNO.out j h1 hj us
        · obtain rfl : j = (k : Int) := by omega
          rcases HOK.out with ⟨h, _⟩ | ⟨_, h⟩
          · cases h
          · exact h us)
      go_wp2
      go_roundw
      case rel => exact ⟨k + 1, by omega, by go_num, HNO1, HB1.out⟩
      case measure => simp [intOf]; omega
    case true =>
    have HOKY : Hid (okR fs fl (k : Int) es) := Lib.hid (by
      rcases HOK.out with ⟨_, h⟩ | ⟨h, _⟩
      · exact h
      · cases h)
    have HEV : Hid (es = vs) := Lib.hid (by
      obtain ⟨f0, mid, last, _, _, h3, h4⟩ := rg_first HV.out HOKY.out HNO.out
      by_cases hc : (∀ v ∈ es, (k : Int) ≤ v) ∧ ¬ last < f0
      · have := h3 hc
        rw [HG.out] at this
        injection this with this
        exact this.symm
      · have := h4 hc
        rw [HG.out] at this
        cases this)
    have HNF : Hid (N = vs.reverse.length) := Lib.hid (by rw [List.length_reverse, ← HEV.out]; exact HNE.out.1)
    have HOF : Hid (w1.ownsRow w.heap.size 3 1 (.slice B N cc) N (vs.reverse.map (Value.int .i64))) := Lib.hid (by rw [← HEV.out]; exact own_base HOE.out HSZ.out)
    go_wp2
    go_ret
    exact ⟨B, N, cc, rfl, HNF, HOF.out, HB1W.out⟩
set_option maxRecDepth 100000 in
set_option maxHeartbeats 4000000 in
theorem specIR {g1 g2 n1 n2 c1 c2 : Nat} {ss : List ByteArray} {fs : List Q4} {w : World} (h : NetAt g1 g2 n1 n2 c1 c2 ss fs w)
    {A : Option Addr} {n c : Nat} {fl : List Int} (hn : fl.length = n) (hr : Rd w w.heap.size A (fl.map (Value.int .i64))) (hx : n ≤ 1048576) (hcp : n ≤ c) :
    Calls Tryd.prog 29 #[.agg #[.slice (some ⟨g1, 0, none⟩) n1 c1, .slice (some ⟨g2, 0, none⟩) n2 c2], .slice A n c] w (RetP (.bool (irB ss fs fl)) w) := by
  have HNT := Lib.hid h; have HN := Lib.hid hn; have HR := Lib.hid hr
  obtain ⟨rb, hrb⟩ : ∃ b, irB ss fs fl = b := ⟨_, rfl⟩
  have HRB := Lib.hid hrb
  rw [hrb]
  clear h hn hr hrb
  go_enter Tryd.func29, Tryd.ntmps29
  go_wp2_with fail
  obtain ⟨W0, hW0⟩ : ∃ W0, w.alloc (Obj.cells #[.slice (some ⟨g1, 0, none⟩) n1 c1, .slice (some ⟨g2, 0, none⟩) n2 c2] 32) = W0 := ⟨_, rfl⟩
  have hb0 : Below w.heap.size w W0 := by rw [← hW0]; exact (Below.refl _ _).alloc (Nat.le_refl _) _
  have k0 : W0.cell? ⟨w.heap.size, 0, none⟩ = some (.slice (some ⟨g1, 0, none⟩) n1 c1) := by rw [← hW0]; simp [go_sem]
  have k1 : W0.cell? ⟨w.heap.size, 1, none⟩ = some (.slice (some ⟨g2, 0, none⟩) n2 c2) := by rw [← hW0]; simp [go_sem]
  have hz0 : w.heap.size < W0.heap.size := by rw [← hW0]; simp
  have HB0 := Lib.hid hb0
  rw [hW0]
  clear hW0 hb0
  have CG := Lib.hid (specNet_ (HNT.out.moved HB0.out))
  obtain ⟨vb, hvb⟩ : ∃ b, pb (netP ss fs) = b := ⟨_, rfl⟩
  rw [hvb] at CG
  have HVB := Lib.hid hvb
  clear hvb
  refine CG.out.mono ?_
  rintro e w1 ⟨rfl, hb1⟩
  have HB1 := Lib.hid (HB0.out.trans (hb1.mono HB0.out.size))
  cases vb
  case false =>
    have HE : Hid (false = rb) := Lib.hid (by rw [← HRB.out]; unfold irB rgQ; rw [HVB.out]; rfl)
    clear hb1 k0 k1 hz0
    go_wp2
    go_ret
    exact ⟨retb HE.out, HB1.out⟩
  case true =>
  have q0 := (hb1.cell (p := ⟨w.heap.size, 0, none⟩) hz0).trans k0
  have q1 := (hb1.cell (p := ⟨w.heap.size, 1, none⟩) hz0).trans k1
  have q2 := Nat.lt_of_lt_of_le hz0 hb1.size
  have CR := Lib.hid (l17Good_ (HNT.out.moved HB1.out) (of_pb HVB.out) HN.out (HR.out.moved HB1.out) hx hcp)
  have HRE : Hid ((rgI fs fl).isSome = rb) := Lib.hid (by rw [← HRB.out]; unfold irB rgQ; rw [HVB.out]; rfl)
  rw [HRE.out] at CR
  clear hb1 k0 k1 hz0
  go_wp2_with fail
  refine CR.out.mono ?_
  rintro e w2 ⟨rfl, hb2⟩
  have HB2 := Lib.hid (HB1.out.trans (hb2.mono HB1.out.size))
  clear hb2 q0 q1 q2
  go_wp2
  go_ret
  exact ⟨rfl, HB2.out⟩
set_option maxRecDepth 100000 in
set_option maxHeartbeats 4000000 in
theorem implIR {g1 g2 n1 n2 c1 c2 : Nat} {ss : List ByteArray} {fs : List Q4} {w : World} (h : NetAt g1 g2 n1 n2 c1 c2 ss fs w)
    {A : Option Addr} {n c : Nat} {fl : List Int} (hn : fl.length = n) (hr : Rd w w.heap.size A (fl.map (Value.int .i64))) (hx : n ≤ 1048576) (hcp : n ≤ c) :
    Calls Tryd.prog 33 #[.agg #[.slice (some ⟨g1, 0, none⟩) n1 c1, .slice (some ⟨g2, 0, none⟩) n2 c2], .slice A n c] w (RetP (.bool (irB ss fs fl)) w) := by
  have CG := Lib.hid (fun W (hb : Below w.heap.size w W) => ringWalk_ (c := c) (h.moved hb) hn (hr.moved hb) hx hcp)
  have HB0 := Lib.hid ((Below.refl w.heap.size w).alloc (Nat.le_refl _) (Obj.cells #[.slice (some ⟨g1, 0, none⟩) n1 c1, .slice (some ⟨g2, 0, none⟩) n2 c2] 32))
  clear h hn hr
  go_enter Tryd.func33, Tryd.ntmps33
  go_wp2_with fail
  refine (CG.out _ HB0.out).mono ?_
  rintro e w1 ⟨hb1, h1⟩
  have HB1 := Lib.hid (HB0.out.trans (hb1.mono HB0.out.size))
  clear hb1
  rcases h1 with ⟨hq, rfl⟩ | ⟨vs, g', hq, rfl, _⟩
  · have HE : Hid (false = irB ss fs fl) := Lib.hid (by unfold irB; rw [hq]; rfl)
    clear hq
    go_wp2
    go_ret
    exact ⟨retb HE.out, HB1.out⟩
  · have HE : Hid (true = irB ss fs fl) := Lib.hid (by unfold irB; rw [hq]; rfl)
    clear hq
    go_wp2
    go_ret
    exact ⟨retb HE.out, HB1.out⟩
set_option maxRecDepth 100000 in
set_option maxHeartbeats 4000000 in
theorem implRgN {g1 g2 n1 n2 c1 c2 : Nat} {ss : List ByteArray} {fs : List Q4} {w : World} (h : NetAt g1 g2 n1 n2 c1 c2 ss fs w)
    {A : Option Addr} {n c : Nat} {fl : List Int} (hn : fl.length = n) (hr : Rd w w.heap.size A (fl.map (Value.int .i64))) (hx : n ≤ 1048576) (hcp : n ≤ c) :
    Calls Tryd.prog 59 #[.agg #[.slice (some ⟨g1, 0, none⟩) n1 c1, .slice (some ⟨g2, 0, none⟩) n2 c2], .slice A n c] w (IntsP (rgnL ss fs fl) (irB ss fs fl) w) := by
  have CG := Lib.hid (fun W (hb : Below w.heap.size w W) => ringWalk_ (c := c) (h.moved hb) hn (hr.moved hb) hx hcp)
  have HN := Lib.hid hn
  have HB0 := Lib.hid ((Below.refl w.heap.size w).alloc (Nat.le_refl _) (Obj.cells #[.slice (some ⟨g1, 0, none⟩) n1 c1, .slice (some ⟨g2, 0, none⟩) n2 c2] 32))
  clear h hn hr
  obtain ⟨L, hL⟩ : ∃ L, rgnL ss fs fl = L := ⟨_, rfl⟩
  obtain ⟨rb, hrb⟩ : ∃ b, irB ss fs fl = b := ⟨_, rfl⟩
  have HL := Lib.hid hL; have HRB := Lib.hid hrb
  rw [hL, hrb]
  clear hL hrb
  go_enter Tryd.func59, Tryd.ntmps59
  go_wp2_with fail
  refine (CG.out _ HB0.out).mono ?_
  rintro e w1 ⟨hb1, h1⟩
  have HB1 := Lib.hid (HB0.out.trans (hb1.mono HB0.out.size))
  clear hb1
  rcases h1 with ⟨hq, rfl⟩ | ⟨vs, g', hq, rfl, hlk⟩
  · have HE : Hid (L = [] ∧ rb = false) := Lib.hid ⟨by rw [← HL.out]; unfold rgnL; rw [hq]; rfl, by rw [← HRB.out]; unfold irB; rw [hq]; rfl⟩
    clear hq
    go_wp2
    go_ret2
    exact ints_no HE.out HB1.out
  · have HE : Hid (L = vs.reverse ∧ rb = true) := Lib.hid ⟨by rw [← HL.out]; unfold rgnL; rw [hq]; rfl, by rw [← HRB.out]; unfold irB; rw [hq]; rfl⟩
    have HNV : Hid (fl.dropLast.reverse.length + 1 = vs.length) := Lib.hid hlk.len.symm
    have CN := Lib.hid (nodes_ w1 hlk (by rw [List.length_reverse, List.length_dropLast]; have := HN.out; omega))
    rw [HNV.out] at CN
    obtain ⟨rfl, rfl⟩ := HE.out
    have HSZ := Lib.hid HB1.out.size
    clear hq hlk
    obtain ⟨M, hM⟩ : ∃ M, vs.length = M := ⟨_, rfl⟩
    rw [hM] at CN
    have HM := Lib.hid hM
    clear hM
    go_wp2_with fail
    refine CN.out.mono ?_
    rintro e w2 ⟨gN, rfl, ho, hb2⟩
    have HB2 := Lib.hid (HB1.out.trans (hb2.mono HB1.out.size))
    have HO := Lib.hid (own_base ho HSZ.out)
    clear hb2 ho
    go_wp2
    go_ret2
    exact ⟨_, M, M, rfl, Lib.hid (by rw [List.length_reverse, HM.out]), HO.out, HB2.out⟩
end Go.Proofs.YtkpendpjdemknaaDoor
