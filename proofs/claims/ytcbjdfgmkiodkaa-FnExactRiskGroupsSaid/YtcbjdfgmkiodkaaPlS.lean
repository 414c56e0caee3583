/- The law's helpers over a plan: argument, copy, compare, size. No condition but those typed. -/
import Derived.Test.YtcbjdfgmkiodkaaNeLt
import Derived.Test.YtcbjdfgmkiodkaaNetS
namespace Go.Proofs.Ytcbjdfgmkiodkaa
open Go.ChangeShapes Go.WideShapes Go.ChangeAt Go.RowKit Go.Deep

section
variable {H : Type} {enc : TypeId × Value → H} {w : World} {held : Bool}
set_option maxRecDepth 100000 in
theorem open_plan {b0 : Nat} {v : Value} {d : DataW H} {p : List MemPlace} (hv : Value.okWide Try.prog w .any b0 71 v) (h : DataW.Trod enc Try.prog w 0 (fun _ => true) held 71 v d p) :
    ∃ (A1 : Option Addr) (n1 c1 : Nat) (ss : List ByteArray) (A2 : Option Addr) (n2 c2 : Nat) (qs : List Q4) (A3 : Option Addr) (n3 c3 : Nat) (ls : List Lt), v = .agg #[.slice A1 n1 c1, .slice A2 n2 c2, .slice A3 n3 c3] ∧
      (ss.length = n1 ∧ n1 ≤ maxLen ∧ Rd w w.heap.size A1 (ss.map Value.string) ∧ (∀ s ∈ ss, s.size ≤ maxLen)) ∧
      (qs.length = n2 ∧ n2 ≤ maxLen ∧ Rd w w.heap.size A2 (qs.flatMap Q4.cells) ∧ (∀ q ∈ qs, q.wf)) ∧
      (ls.length = n3 ∧ n3 ≤ maxLen ∧ Rd w w.heap.size A3 (ls.flatMap Lt.cells) ∧ (∀ x ∈ ls, LtIn w x)) := by
  obtain ⟨cs, rfl, hsz⟩ := okWide_struct Try.underlying71 hv
  have hC : Try.prog.cellsOf 71 = 3 := by kernel_rfl
  obtain ⟨l⟩ := cs
  match l, hsz.trans hC with
  | [x0, x1, x2], _ =>
    obtain ⟨fuel, hf⟩ := h
    obtain ⟨ys, n, _, _, _, hlen, hg⟩ := DataW.trod_struct Try.underlying71 hf
    have g0 := hg 0 _ rfl
    obtain ⟨y0, hy0⟩ : ∃ y, ys[0]? = some y := ⟨_, List.getElem?_eq_getElem (by rw [hlen]; decide)⟩
    rw [hy0] at g0
    have g0' : DataW.trod enc Try.prog w 0 (fun _ => true) held n 25 [x0, x1] = some y0 := g0
    have g1 := hg 1 _ rfl
    obtain ⟨y1, hy1⟩ : ∃ y, ys[1]? = some y := ⟨_, List.getElem?_eq_getElem (by rw [hlen]; decide)⟩
    rw [hy1] at g1
    have g1' : DataW.trod enc Try.prog w 0 (fun _ => true) held n 69 [x2] = some y1 := g1
    obtain ⟨zs, m, _, _, _, hlen2, hk⟩ := DataW.trod_struct Try.underlying25 g0'
    have k0 := hk 0 _ rfl
    obtain ⟨u0, hu0⟩ : ∃ y, zs[0]? = some y := ⟨_, List.getElem?_eq_getElem (by rw [hlen2]; decide)⟩
    rw [hu0] at k0
    have k0' : DataW.trod enc Try.prog w 0 (fun _ => true) held m 22 [x0] = some u0 := k0
    have k1 := hk 1 _ rfl
    obtain ⟨u1, hu1⟩ : ∃ y, zs[1]? = some y := ⟨_, List.getElem?_eq_getElem (by rw [hlen2]; decide)⟩
    rw [hu1] at k1
    have k1' : DataW.trod enc Try.prog w 0 (fun _ => true) held m 23 [x1] = some u1 := k1
    obtain ⟨A1, n1, c1, ss, e1, a⟩ := rd_strs Try.underlying22 Try.underlying9 (by kernel_rfl) k0'
    obtain ⟨A2, n2, c2, qs, e2, b⟩ := rd_q4s Try.underlying23 Try.underlying248 (by kernel_rfl) (by kernel_rfl) rfl (hint_of Try.underlying3 (by decide +kernel)) k1'
    obtain ⟨A3, n3, c3, ls, e3, c⟩ := rd_lts g1'
    injection e1 with e1; injection e2 with e2; injection e3 with e3
    subst e1 e2 e3
    exact ⟨A1, n1, c1, ss, A2, n2, c2, qs, A3, n3, c3, ls, rfl, a, b, c⟩
end
def PlSz (left : Int) (m : Nat) (w : World) (e : Ending) (w' : World) : Prop := ∃ v : Int, e = .returned (.int .i64 v) ∧ Below w.heap.size w w' ∧ -1 ≤ v ∧ v ≤ left ∧ (0 ≤ v → v + m ≤ left)
set_option maxRecDepth 100000 in
set_option maxHeartbeats 1000000 in
theorem szPl (A1 A2 A3 : Option Addr) (n1 c1 n2 c2 n3 c3 : Nat) (left : Int) (ss : List ByteArray) (fs : List Q4) (ls : List Lt) (w : World) (hn1 : ss.length = n1) (hm1 : n1 ≤ maxLen) (hr1 : Rd w w.heap.size A1 (ss.map Value.string)) (hws : ∀ s ∈ ss, s.size ≤ maxLen)
    (hm2 : n2 ≤ maxLen) (hn3 : ls.length = n3) (hm3 : n3 ≤ maxLen) (hr3 : Rd w w.heap.size A3 (ls.flatMap Lt.cells)) (hi3 : ∀ x ∈ ls, LtIn w x) (hl0 : 0 ≤ left) (hl1 : left ≤ 1048576) :
    Calls Try.prog 61 #[.agg #[.slice A1 n1 c1, .slice A2 n2 c2, .slice A3 n3 c3], .int .i64 left] w (PlSz left (n1 + n2 + totS ss + n3 + Lttot ls) w) := by
  have HN1 := Lib.hid hn1; have HR1 := Lib.hid hr1; have HWS := Lib.hid hws; have HN3 := Lib.hid hn3; have HR3 := Lib.hid hr3; have HI3 := Lib.hid hi3; have HM1 := Lib.hid hm1; have HM2 := Lib.hid hm2; have HM3 := Lib.hid hm3
  clear hn1 hr1 hws hn3 hr3 hi3 hm1 hm2 hm3
  go_enter Try.func61, Try.ntmps61
  go_wp2_with fail
  obtain ⟨W, hW⟩ : ∃ W, w.alloc (Obj.cells #[.slice A1 n1 c1, .slice A2 n2 c2, .slice A3 n3 c3] 71) = W := ⟨_, rfl⟩
  have hb0 : Below w.heap.size w W := by rw [← hW]; exact (Below.refl _ _).alloc (Nat.le_refl _) _
  have hk2 : W.cell? ⟨w.heap.size, 2, none⟩ = some (.slice A3 n3 c3) := by rw [← hW]; simp [go_sem]
  have hz : w.heap.size < W.heap.size := by rw [← hW]; simp
  rw [hW]
  have HB0 := Lib.hid hb0; have HZ := Lib.hid hz; have HK2 := Lib.hid hk2
  clear hW hb0 hz hk2
  refine (szNet A1 A2 n1 c1 n2 c2 left ss fs W HN1.out HM1.out (HR1.out.moved HB0.out) HWS.out HM2.out hl0 hl1).mono ?_
  rintro e w2 ⟨v, rfl, hb2, hv0, hv1, hv2⟩
  have HB2 := Lib.hid (HB0.out.trans (hb2.mono HB0.out.size))
  have hk2 := (hb2.cell (p := ⟨w.heap.size, 2, none⟩) HZ.out).trans HK2.out
  clear hb2
  by_cases hneg : v < 0
  · go_wp2
    go_ret
    exact ⟨-1, rfl, HB2.out, by omega, by omega, by omega⟩
  have hpos : 0 ≤ v := by omega
  have HV2 := Lib.hid (hv2 hpos)
  clear hneg hv2
  go_wp2_with fail
  refine (szLts A3 n3 c3 v ls w2 HN3.out HM3.out (HR3.out.moved HB2.out) (fun x hx => (HI3.out x hx).moved HB2.out) hpos (by omega)).mono ?_
  rintro e w3 ⟨u, rfl, hb3, hu0, hu1, hu2⟩
  have HB3 := Lib.hid (HB2.out.trans (hb3.mono HB2.out.size))
  clear hb3
  by_cases hneg : u < 0
  · go_wp2
    go_ret
    exact ⟨-1, rfl, HB3.out, by omega, by omega, by omega⟩
  have hpo : 0 ≤ u := by omega
  have HU2 := Lib.hid (hu2 hpo)
  clear hneg hu2
  go_wp2
  go_ret
  exact ⟨u, rfl, HB3.out, by omega, by omega, fun _ => by have h1 := HV2.out; have h2 := HU2.out; omega⟩
def PlOut (ss : List ByteArray) (fs : List Q4) (ls : List Lt) (n1 n2 n3 : Nat) (w : World) (e : Ending) (w' : World) : Prop :=
  ∃ (g1 g2 g3 : Nat) (ys : List Lt), e = .returned (.agg #[.slice (some ⟨g1, 0, none⟩) n1 n1, .slice (some ⟨g2, 0, none⟩) n2 n2, .slice (some ⟨g3, 0, none⟩) n3 n3]) ∧
    w'.ownsRow w.heap.size 9 1 (.slice (some ⟨g1, 0, none⟩) n1 n1) n1 (ss.map Value.string) ∧
    w'.ownsRow w.heap.size 172 4 (.slice (some ⟨g2, 0, none⟩) n2 n2) n2 (fs.flatMap Q4.cells) ∧ w.heap.size ≤ g3 ∧ ys.map Lt.d = ls.map Lt.d ∧ Lts w.heap.size g3 n3 ys w' ∧ Below w.heap.size w w'
theorem Lts.set_ {B g n b o : Nat} {ys : List Lt} {w : World} (h : Lts B g n ys w) (hb : b < B) (u : Value) : Lts B g n ys (w.setCell ⟨b, o, none⟩ u) := by
  refine ⟨h.len, own_set h.row (p := ⟨b, o, none⟩) (fun e => by have e2 : b = g := e; have := (h.row.lt g rfl).1; omega) u, fun y hy => ?_, h.apart⟩
  obtain ⟨q, e, e2, h1, h2, h3, ho⟩ := h.own y hy
  exact ⟨q, e, e2, h1, h2, h3, own_set ho (p := ⟨b, o, none⟩) (fun e => by have e2 : b = q := e; have := (ho.lt q rfl).1; omega) u⟩
set_option maxRecDepth 100000 in
set_option maxHeartbeats 1000000 in
theorem toPl (A1 A2 A3 : Option Addr) (n1 c1 n2 c2 n3 c3 : Nat) (ss : List ByteArray) (fs : List Q4) (ls : List Lt) (w : World) (hn1 : ss.length = n1) (hr1 : Rd w w.heap.size A1 (ss.map Value.string)) (hs1 : n1 ≤ 1048576)
    (hn2 : fs.length = n2) (hr2 : Rd w w.heap.size A2 (fs.flatMap Q4.cells)) (hs2 : n2 ≤ 1048576) (hn3 : ls.length = n3) (hr3 : Rd w w.heap.size A3 (ls.flatMap Lt.cells)) (hi3 : ∀ x ∈ ls, LtAt w x) (hs3 : n3 ≤ 1048576) :
    Calls Try.prog 63 #[.agg #[.slice A1 n1 c1, .slice A2 n2 c2, .slice A3 n3 c3]] w (PlOut ss fs ls n1 n2 n3 w) := by
  have HN1 := Lib.hid hn1; have HR1 := Lib.hid hr1; have HN2 := Lib.hid hn2; have HR2 := Lib.hid hr2; have HN3 := Lib.hid hn3; have HR3 := Lib.hid hr3; have HI3 := Lib.hid hi3
  clear hn1 hr1 hn2 hr2 hn3 hr3 hi3
  go_enter Try.func63, Try.ntmps63
  go_wp2_with fail
  obtain ⟨W, hW⟩ : ∃ W, ((w.alloc (Obj.cells #[.slice A1 n1 c1, .slice A2 n2 c2, .slice A3 n3 c3] 71)).alloc (Obj.cells #[.slice none 0 0, .slice none 0 0, .slice none 0 0] 76)).alloc (Obj.cells #[.slice none 0 0, .slice none 0 0, .slice none 0 0] 76) = W := ⟨_, rfl⟩
  have hb0 : Below w.heap.size w W := by rw [← hW]; exact (((Below.refl _ _).alloc (Nat.le_refl _) _).alloc (by simp) _).alloc (by simp; omega) _
  have hk2 : W.cell? ⟨w.heap.size, 2, none⟩ = some (.slice A3 n3 c3) := by rw [← hW]; simp [go_sem]
  have hsz : W.heap.size = w.heap.size + 1 + 1 + 1 := by rw [← hW]; simp
  have HC : Hid (∀ j, j < 3 → W.cell? ⟨w.heap.size + 1 + 1, j, none⟩ = some (.slice none 0 0)) := Lib.hid (by
    intro j hj
    rw [← hW]
    match j, hj with
    | 0, _ => simp [go_sem]
    | 1, _ => simp [go_sem]
    | 2, _ => simp [go_sem])
  have HFZ : Hid (∀ j, W.frozen? ⟨w.heap.size + 1 + 1, j, none⟩ = false) := Lib.hid (by intro j; rw [← hW]; simp [go_sem])
  have HRZ : Hid (∀ j, W.frozen? ⟨w.heap.size + 1, j, none⟩ = false) := Lib.hid (by intro j; rw [← hW]; simp [go_sem])
  have HRC : Hid (∀ j, j < 3 → W.cell? ⟨w.heap.size + 1, j, none⟩ = some (.slice none 0 0)) := Lib.hid (by
    intro j hj
    rw [← hW]
    match j, hj with
    | 0, _ => simp [go_sem]
    | 1, _ => simp [go_sem]
    | 2, _ => simp [go_sem])
  rw [hW]
  have HB0 := Lib.hid hb0; have HK2 := Lib.hid hk2; have HSZ := Lib.hid hsz
  clear hW hb0 hk2 hsz
  refine (toNet A1 A2 n1 c1 n2 c2 ss fs W HN1.out (HR1.out.moved HB0.out) hs1 HN2.out (HR2.out.moved HB0.out) hs2).mono ?_
  rintro e w2 ⟨g1, g2, rfl, ho1, ho2, hb2⟩
  have HB2 := Lib.hid (HB0.out.trans (hb2.mono HB0.out.size))
  have hsz := HSZ.out
  have hk2 := (hb2.cell (p := ⟨w.heap.size, 2, none⟩) (by show w.heap.size < _; omega)).trans HK2.out
  have hsz2 := hb2.size
  have q0 := (hb2.cell (p := ⟨w.heap.size + 1 + 1, 0, none⟩) (by show w.heap.size + 1 + 1 < _; omega)).trans (HC.out 0 (by omega))
  have q1 := (hb2.cell (p := ⟨w.heap.size + 1 + 1, 1, none⟩) (by show w.heap.size + 1 + 1 < _; omega)).trans (HC.out 1 (by omega))
  have q2 := (hb2.cell (p := ⟨w.heap.size + 1 + 1, 2, none⟩) (by show w.heap.size + 1 + 1 < _; omega)).trans (HC.out 2 (by omega))
  have f0 := (hb2.frozen (p := ⟨w.heap.size + 1 + 1, 0, none⟩) (by show w.heap.size + 1 + 1 < _; omega)).trans (HFZ.out 0)
  have f1 := (hb2.frozen (p := ⟨w.heap.size + 1 + 1, 1, none⟩) (by show w.heap.size + 1 + 1 < _; omega)).trans (HFZ.out 1)
  have f2 := (hb2.frozen (p := ⟨w.heap.size + 1 + 1, 2, none⟩) (by show w.heap.size + 1 + 1 < _; omega)).trans (HFZ.out 2)
  have HG1 := Lib.hid (ho1.lt g1 rfl); have HG2 := Lib.hid (ho2.lt g2 rfl)
  have HO1 := Lib.hid (own_base ho1 (B' := w.heap.size) (by omega)); have HO2 := Lib.hid (own_base ho2 (B' := w.heap.size) (by omega))
  have hz2 : w.heap.size + 1 + 1 < w2.heap.size := by omega
  have hz1 : w.heap.size < w2.heap.size := by omega
  have HRC2 : Hid (∀ j, j < 3 → w2.cell? ⟨w.heap.size + 1, j, none⟩ = some (.slice none 0 0)) := Lib.hid (fun j hj => (hb2.cell (p := ⟨w.heap.size + 1, j, none⟩) (by show w.heap.size + 1 < _; omega)).trans (HRC.out j hj))
  have HRZ2 : Hid (∀ j, w2.frozen? ⟨w.heap.size + 1, j, none⟩ = false) := Lib.hid (fun j => (hb2.frozen (p := ⟨w.heap.size + 1, j, none⟩) (by show w.heap.size + 1 < _; omega)).trans (HRZ.out j))
  clear ho1 ho2 hb2 hsz hsz2
  have HBS := Lib.hid ((HB2.out.setCell (p := ⟨w.heap.size + 1 + 1, 0, none⟩) (by show w.heap.size ≤ w.heap.size + 1 + 1; omega) (.slice (some ⟨g1, 0, none⟩) n1 n1)).setCell (p := ⟨w.heap.size + 1 + 1, 1, none⟩) (by show w.heap.size ≤ w.heap.size + 1 + 1; omega) (.slice (some ⟨g2, 0, none⟩) n2 n2))
  go_wp2_with fail
  obtain ⟨X, hX⟩ : ∃ X, (w2.setCell ⟨w.heap.size + 1 + 1, 0, none⟩ (.slice (some ⟨g1, 0, none⟩) n1 n1)).setCell ⟨w.heap.size + 1 + 1, 1, none⟩ (.slice (some ⟨g2, 0, none⟩) n2 n2) = X := ⟨_, rfl⟩
  have HX0 : Hid (X.cell? ⟨w.heap.size + 1 + 1, 0, none⟩ = some (.slice (some ⟨g1, 0, none⟩) n1 n1)) := Lib.hid (by rw [← hX]; simp [go_sem, q0, q1, hz2])
  have HX1 : Hid (X.cell? ⟨w.heap.size + 1 + 1, 1, none⟩ = some (.slice (some ⟨g2, 0, none⟩) n2 n2)) := Lib.hid (by rw [← hX]; simp [go_sem, q0, q1, hz2])
  have HX2 : Hid (X.cell? ⟨w.heap.size + 1 + 1, 2, none⟩ = some (.slice none 0 0)) := Lib.hid (by rw [← hX]; simp [go_sem, q2, hz2])
  have HXF : Hid (X.frozen? ⟨w.heap.size + 1 + 1, 2, none⟩ = false) := Lib.hid (by rw [← hX]; simp [go_sem, f2, hz2])
  have HXZ : Hid (w.heap.size + 1 + 1 < X.heap.size) := Lib.hid (by rw [← hX]; simpa using hz2)
  have HRC3 : Hid (∀ j, j < 3 → X.cell? ⟨w.heap.size + 1, j, none⟩ = some (.slice none 0 0)) := Lib.hid (by intro j hj; rw [← hX]; simp [go_sem, HRC2.out j hj])
  have HRZ3 : Hid (∀ j, X.frozen? ⟨w.heap.size + 1, j, none⟩ = false) := Lib.hid (by intro j; rw [← hX]; simp [go_sem, HRZ2.out j])
  have HP1 : Hid (X.ownsRow w.heap.size 9 1 (.slice (some ⟨g1, 0, none⟩) n1 n1) n1 (ss.map Value.string)) := Lib.hid (by
    rw [← hX]
    exact own_set (own_set HO1.out (p := ⟨_, _, none⟩) (by have h1 := HG1.out; have h2 := HSZ.out; show w.heap.size + 1 + 1 ≠ g1; omega) _) (p := ⟨_, _, none⟩) (by have h1 := HG1.out; have h2 := HSZ.out; show w.heap.size + 1 + 1 ≠ g1; omega) _)
  have HP2 : Hid (X.ownsRow w.heap.size 172 4 (.slice (some ⟨g2, 0, none⟩) n2 n2) n2 (fs.flatMap Q4.cells)) := Lib.hid (by
    rw [← hX]
    exact own_set (own_set HO2.out (p := ⟨_, _, none⟩) (by have h1 := HG2.out; have h2 := HSZ.out; show w.heap.size + 1 + 1 ≠ g2; omega) _) (p := ⟨_, _, none⟩) (by have h1 := HG2.out; have h2 := HSZ.out; show w.heap.size + 1 + 1 ≠ g2; omega) _)
  rw [hX] at HBS ⊢
  clear hX q0 q1 q2 f0 f1 f2 hk2 hz2 hz1
  refine (toLts A3 n3 c3 ls X HN3.out (HR3.out.moved HBS.out) (fun x hx => (HI3.out x hx).moved HBS.out) hs3).mono ?_
  rintro e w3 ⟨g3, ys, rfl, hg3, hd, hT, hb3⟩
  have HB3 := Lib.hid (HBS.out.trans (hb3.mono HBS.out.size))
  have hz0 := HXZ.out
  have q0 := (hb3.cell (p := ⟨w.heap.size + 1 + 1, 0, none⟩) hz0).trans HX0.out
  have q1 := (hb3.cell (p := ⟨w.heap.size + 1 + 1, 1, none⟩) hz0).trans HX1.out
  have q2 := (hb3.cell (p := ⟨w.heap.size + 1 + 1, 2, none⟩) hz0).trans HX2.out
  have f2 := (hb3.frozen (p := ⟨w.heap.size + 1 + 1, 2, none⟩) hz0).trans HXF.out
  have r0 := (hb3.cell (p := ⟨w.heap.size + 1, 0, none⟩) (by show w.heap.size + 1 < _; omega)).trans (HRC3.out 0 (by omega))
  have r1 := (hb3.cell (p := ⟨w.heap.size + 1, 1, none⟩) (by show w.heap.size + 1 < _; omega)).trans (HRC3.out 1 (by omega))
  have r2 := (hb3.cell (p := ⟨w.heap.size + 1, 2, none⟩) (by show w.heap.size + 1 < _; omega)).trans (HRC3.out 2 (by omega))
  have z0_ := (hb3.frozen (p := ⟨w.heap.size + 1, 0, none⟩) (by show w.heap.size + 1 < _; omega)).trans (HRZ3.out 0)
  have z1_ := (hb3.frozen (p := ⟨w.heap.size + 1, 1, none⟩) (by show w.heap.size + 1 < _; omega)).trans (HRZ3.out 1)
  have z2_ := (hb3.frozen (p := ⟨w.heap.size + 1, 2, none⟩) (by show w.heap.size + 1 < _; omega)).trans (HRZ3.out 2)
  have HR1 := Lib.hid (ownB HP1.out hb3); have HR2 := Lib.hid (ownB HP2.out hb3)
  have hz3 : w.heap.size + 1 + 1 < w3.heap.size := Nat.lt_of_lt_of_le hz0 hb3.size
  have hza : w.heap.size + 1 < w3.heap.size := by omega
  have HT := Lib.hid hT; have HD := Lib.hid hd
  have hg3' : w.heap.size ≤ g3 := by omega
  clear hT hd hb3 hz0
  go_wp2
  refine bodyPost_ret (v := .agg #[.slice (some ⟨g1, 0, none⟩) n1 n1, .slice (some ⟨g2, 0, none⟩) n2 n2, .slice (some ⟨g3, 0, none⟩) n3 n3]) (by simp [results, Try.results63, go_sem, q0, q1, q2, r0, r1, r2, hz3, hza]) rfl ⟨g1, g2, g3, ys, rfl, ?_, ?_, hg3', HD.out, ?_, ?_⟩
  · repeat (first | with_reducible exact HR1.out | refine own_set ?_ (p := ⟨_, _, none⟩) (by have h1 := HG1.out; have h2 := HSZ.out; first | (show w.heap.size + 1 + 1 ≠ g1; omega) | (show w.heap.size + 1 ≠ g1; omega)) _)
  · repeat (first | with_reducible exact HR2.out | refine own_set ?_ (p := ⟨_, _, none⟩) (by have h1 := HG2.out; have h2 := HSZ.out; first | (show w.heap.size + 1 + 1 ≠ g2; omega) | (show w.heap.size + 1 ≠ g2; omega)) _)
  · have h9 : Lts X.heap.size g3 n3 ys w3 := HT.out
    refine Lts.base ?_ (B := X.heap.size) (by have := HXZ.out; omega)
    repeat (first | with_reducible exact h9 | refine Lts.set_ ?_ (by have := HXZ.out; omega) _)
  · repeat (first | with_reducible exact HB3.out | refine Below.setCell ?_ (p := ⟨_, _, none⟩) (by first | (show w.heap.size ≤ w.heap.size + 1 + 1; omega) | (show w.heap.size ≤ w.heap.size + 1; omega)) _)
set_option maxRecDepth 100000 in
set_option maxHeartbeats 1000000 in
theorem eqPl (g1 g2 g3 g1' g2' g3' n1 n2 n3 : Nat) (ss : List ByteArray) (fs : List Q4) (xs ys : List Lt) (w : World) {B B' : Nat} (hn1 : ss.length = n1) (hs1 : n1 ≤ 1048576) (hn2 : fs.length = n2) (hs2 : n2 ≤ 1048576)
    (hr1 : Rd w w.heap.size (some ⟨g1, 0, none⟩) (ss.map Value.string)) (hr1' : Rd w w.heap.size (some ⟨g1', 0, none⟩) (ss.map Value.string))
    (hr2 : Rd w w.heap.size (some ⟨g2, 0, none⟩) (fs.flatMap Q4.cells)) (hr2' : Rd w w.heap.size (some ⟨g2', 0, none⟩) (fs.flatMap Q4.cells))
    (hx : Lts B g3 n3 xs w) (hy : Lts B' g3' n3 ys w) (hd : xs.map Lt.d = ys.map Lt.d) (hs3 : n3 ≤ 1048576) :
    Calls Try.prog 65 #[.agg #[.slice (some ⟨g1, 0, none⟩) n1 n1, .slice (some ⟨g2, 0, none⟩) n2 n2, .slice (some ⟨g3, 0, none⟩) n3 n3], .agg #[.slice (some ⟨g1', 0, none⟩) n1 n1, .slice (some ⟨g2', 0, none⟩) n2 n2, .slice (some ⟨g3', 0, none⟩) n3 n3]] w fun e w' => e = .returned (.bool true) ∧ Below w.heap.size w w' := by
  have HN1 := Lib.hid hn1; have HN2 := Lib.hid hn2; have HR1 := Lib.hid hr1; have HR1' := Lib.hid hr1'; have HR2 := Lib.hid hr2; have HR2' := Lib.hid hr2'; have HX := Lib.hid hx; have HY := Lib.hid hy; have HD := Lib.hid hd
  clear hn1 hn2 hr1 hr1' hr2 hr2' hx hy hd
  go_enter Try.func65, Try.ntmps65
  go_wp2_with fail
  obtain ⟨W, hW⟩ : ∃ W, (w.alloc (Obj.cells #[.slice (some ⟨g1, 0, none⟩) n1 n1, .slice (some ⟨g2, 0, none⟩) n2 n2, .slice (some ⟨g3, 0, none⟩) n3 n3] 76)).alloc (Obj.cells #[.slice (some ⟨g1', 0, none⟩) n1 n1, .slice (some ⟨g2', 0, none⟩) n2 n2, .slice (some ⟨g3', 0, none⟩) n3 n3] 76) = W := ⟨_, rfl⟩
  have hb0 : Below w.heap.size w W := by rw [← hW]; exact ((Below.refl _ _).alloc (Nat.le_refl _) _).alloc (by simp) _
  have hk0 : W.cell? ⟨w.heap.size, 2, none⟩ = some (.slice (some ⟨g3, 0, none⟩) n3 n3) := by rw [← hW]; simp [go_sem]
  have hk1 : W.cell? ⟨w.heap.size + 1, 2, none⟩ = some (.slice (some ⟨g3', 0, none⟩) n3 n3) := by rw [← hW]; simp [go_sem]
  have hz : w.heap.size + 1 < W.heap.size := by rw [← hW]; simp
  rw [hW]
  have HB0 := Lib.hid hb0
  clear hW hb0
  refine (eqNet g1 g2 g1' g2' n1 n2 n1 n2 n1 n2 ss fs W HN1.out hs1 HN2.out hs2 (HR1.out.moved HB0.out) (HR1'.out.moved HB0.out) (HR2.out.moved HB0.out) (HR2'.out.moved HB0.out)).mono ?_
  rintro e w2 ⟨rfl, hb2⟩
  have HB2 := Lib.hid (HB0.out.trans (hb2.mono HB0.out.size))
  have l0 := (hb2.cell (p := ⟨w.heap.size, 2, none⟩) (by show w.heap.size < _; omega)).trans hk0
  have l1 := (hb2.cell (p := ⟨w.heap.size + 1, 2, none⟩) hz).trans hk1
  clear hb2 hk0 hk1 hz
  go_wp2_with fail
  refine (eqLts g3 g3' n3 B B' xs ys w2 (HX.out.moved HB2.out) (HY.out.moved HB2.out) HD.out hs3).mono ?_
  rintro e w3 ⟨rfl, hb3⟩
  have HB3 := Lib.hid (HB2.out.trans (hb3.mono HB2.out.size))
  clear hb3
  go_wp2
  go_ret
  exact ⟨rfl, HB3.out⟩
end Go.Proofs.Ytcbjdfgmkiodkaa
