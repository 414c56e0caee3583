/- Rings: the implementation's walk around a ring: contracts. No condition but those typed. -/
import Derived.Test.YtkpendpjdemknaaDoorRgP
import Derived.Test.YtkpendpjdemknaaDoorGB
import Derived.Test.YtkpendpjdemknaaDoorWk8
import Derived.Test.YtkpendpjdemknaaDoorLtC
import Derived.Test.YtkpendpjdemknaaDoorGA
import Derived.Test.YtkpendpjdemknaaDoorShelf
namespace Go.Proofs.YtkpendpjdemknaaDoor
open Go.ChangeShapes Go.WideShapes Go.ChangeAt Go.RowKit

theorem take_ {P : Program} {md : Region.Mode} {ops : Array Oper} {Q : Exit → Act → World → Prop} {i : Nat} {oi : Oper} {d : Option Nat} {v : Value} {fuel : Nat} {listed : Array Bool} {a : Act} {w : World} (hi : ops[i]? = some oi) (hd : oi.dst = d)
    (hs : Region.noSelect ops = true) (hf : Region.free md ops listed i = true) (hr : (Region.ready md ops listed).contains i = true)
    (hQ : ∀ c a w, Q (.panic c) (a.put d v) w → Q (.panic c) a w) (hy : Yields P ops oi v a)
    (h : wpAny P md ops Q fuel (listed.setIfInBounds i true) (a.put d v) w) : wpAny P md ops Q (fuel + 1) listed a w := by
  subst hd; exact wpAny_take hi hs hf hr hQ hy h
theorem frame_ {φ : Act → Prop} {a b : Act} (h : a = b) (hb : φ b) : φ a := by subst h; exact hb
def closP (fs : List Q4) (xs ns : List Int) (x : Int) : Prop := ((0 ≤ x ∧ x < fs.length) ∧ xs ≠ []) ∧ acrB (fibI fs x) (ns.headD 0) = true ∧ acrI (fibI fs x) (ns.headD 0) = ns.getLastD 0 ∧ xs.getLastD 0 < x
theorem last_rev (l : List Int) (h : 0 < l.length) (h' : 0 < l.reverse.length) : l.reverse[0]'h' = l.getLastD 0 := by
  rw [List.getElem_reverse, List.getLastD_eq_getLast?, List.getLast?_eq_getElem?, List.getElem?_eq_getElem (by omega)]
  simp
theorem own_first {w : World} {b N cc : Nat} {g : Nat} {l : List Int} (h : w.ownsRow b 3 1 (.slice (some ⟨g, 0, none⟩) N cc) N (l.reverse.map (Value.int .i64))) (hl : 0 < l.length) (hN : N = l.length) : w.cell? ⟨g, 0, none⟩ = some (.int .i64 (l.getLastD 0)) := by
  rw [h.cellAt 0 (by omega), List.getElem?_map, List.getElem?_eq_getElem (by simpa using hl), last_rev l hl]; rfl

set_option maxRecDepth 100000 in
set_option maxHeartbeats 4000000 in
theorem closes_ {g1 g2 n1 n2 c1 c2 : Nat} {ss : List ByteArray} {fs : List Q4} {w : World} (h : NetAt g1 g2 n1 n2 c1 c2 ss fs w) {xs ns : List Int} {g : Nat} (hl : Lk fs w g xs ns) (hx : xs.length ≤ 1048576) (hne : xs ≠ []) (x : Int) :
    Calls Tryd.prog 85 #[.pointer (some ⟨g, 0, none⟩), .agg #[.slice (some ⟨g1, 0, none⟩) n1 c1, .slice (some ⟨g2, 0, none⟩) n2 c2], .int .i64 x] w (RetP (.bool (pb (closP fs xs ns x))) w) := by
  obtain ⟨rb, hrb⟩ : ∃ b, pb (closP fs xs ns x) = b := ⟨_, rfl⟩
  have HRB := Lib.hid hrb
  rw [hrb]
  clear hrb
  have HNT := Lib.hid h; have HL := Lib.hid hl; have HLN := Lib.hid h.ln2
  have hs2 := h.sm2
  have HNL : Hid (ns.length = xs.length + 1) := Lib.hid hl.len
  obtain ⟨nd, tl, la, p, hns, hh, _⟩ := hl.see
  have HHD : Hid (ns.headD 0 = nd) := Lib.hid (by rw [hns]; rfl)
  obtain ⟨m, hm⟩ : ∃ m, xs.length = m := ⟨_, rfl⟩
  have hm0 : 0 < m := by rw [← hm]; exact List.length_pos_iff.2 hne
  rw [hm] at hh hx
  have HM := Lib.hid hm; have HNE := Lib.hid hne
  obtain ⟨f0, f1, f2, f3, f4⟩ := five_cells hh
  have hgw : g < w.heap.size := hl.lt
  clear h hl hns hm hne hh f1 f3 f4
  have HF0 := Lib.hid f0; have HF2 := Lib.hid f2
  clear f0 f2
  go_enter Tryd.func85, Tryd.ntmps85
  go_wp2_with fail
  obtain ⟨W0, hW0⟩ : ∃ W0, w.alloc (Obj.cells #[.slice (some ⟨g1, 0, none⟩) n1 c1, .slice (some ⟨g2, 0, none⟩) n2 c2] 32) = W0 := ⟨_, rfl⟩
  have hb0 : Below w.heap.size w W0 := by rw [← hW0]; exact (Below.refl _ _).alloc (Nat.le_refl _) _
  have k0 : W0.cell? ⟨w.heap.size, 0, none⟩ = some (.slice (some ⟨g1, 0, none⟩) n1 c1) := by rw [← hW0]; simp [go_sem]
  have k1 : W0.cell? ⟨w.heap.size, 1, none⟩ = some (.slice (some ⟨g2, 0, none⟩) n2 c2) := by rw [← hW0]; simp [go_sem]
  have hz0 : w.heap.size < W0.heap.size := by rw [← hW0]; simp
  have HB0 := Lib.hid hb0
  have HK : Hid (∀ u, Below W0.heap.size W0 u → u.cell? ⟨w.heap.size, 0, none⟩ = some (.slice (some ⟨g1, 0, none⟩) n1 c1) ∧ u.cell? ⟨w.heap.size, 1, none⟩ = some (.slice (some ⟨g2, 0, none⟩) n2 c2) ∧ u.cell? ⟨g, 0, none⟩ = some (.int .i64 nd) ∧ u.cell? ⟨g, 2, none⟩ = some (.int .i64 (m : Int)) ∧ w.heap.size < u.heap.size ∧ g < u.heap.size) := Lib.hid fun u hu => ⟨(hu.cell (p := ⟨w.heap.size, 0, none⟩) hz0).trans k0, (hu.cell (p := ⟨w.heap.size, 1, none⟩) hz0).trans k1, ((hb0.trans (hu.mono hb0.size)).cell (p := ⟨g, 0, none⟩) hgw).trans HF0.out, ((hb0.trans (hu.mono hb0.size)).cell (p := ⟨g, 2, none⟩) hgw).trans HF2.out, Nat.lt_of_lt_of_le hz0 hu.size, Nat.lt_of_lt_of_le (Nat.lt_of_lt_of_le hgw hb0.size) hu.size⟩
  rw [hW0]
  clear hW0 hb0 k0 k1 hz0 hgw
  by_cases hin : 0 ≤ x ∧ x < (n2 : Int)
  case neg =>
    have HE : Hid (false = rb) := Lib.hid (by rw [← HRB.out, pb_false (fun h => hin (by have := h.1.1; have := HLN.out; omega))])
    refine (isFib_no (g1 := g1) (g2 := g2) (n1 := n1) (n2 := n2) (c1 := c1) (c2 := c2) x _ (by omega)).mono ?_
    rintro e w1 ⟨rfl, hb1⟩
    have HB1 := Lib.hid (HB0.out.trans (hb1.mono HB0.out.size))
    clear hin hb1
    go_wp2
    go_ret
    exact ⟨retb HE.out, HB1.out⟩
  case pos =>
  refine (isFib_yes (g1 := g1) (g2 := g2) (n1 := n1) (n2 := n2) (c1 := c1) (c2 := c2) x _ hin.1 hin.2).mono ?_
  rintro e w1 ⟨rfl, hb1⟩
  have HBR := Lib.hid hb1
  have HB1 := Lib.hid (HB0.out.trans (hb1.mono HB0.out.size))
  obtain ⟨k, rfl⟩ : ∃ k : Nat, x = k := ⟨x.toNat, by omega⟩
  have hkn : k < n2 := by omega
  have hkl : k < fs.length := by have := HLN.out; omega
  obtain ⟨q, hq⟩ : ∃ q, fs[k]'hkl = q := ⟨_, rfl⟩
  have HQ : Hid (fibI fs (k : Int) = q) := Lib.hid (by rw [← hq]; unfold fibI; rw [List.getD_eq_getElem?_getD, show ((k : Int)).toNat = k by omega, List.getElem?_eq_getElem hkl]; rfl)
  have HKL := Lib.hid hkl
  obtain ⟨q0, q1, q2, q3, q4, q5⟩ := HK.out w1 hb1
  have hr := (HNT.out.moved HB1.out).rd2.q4c hkl
  rw [Nat.zero_add, hq] at hr
  obtain ⟨hgv, r0, r1, r2, r3⟩ := hr
  have hm1 : ¬ ((m : Int) = 0) := by omega
  have hm2 : ((m : Int) == 0) = false := beq_eq_false_iff_ne.2 hm1
  have hm3 : decide ((m : Int) = 0) = false := decide_eq_false hm1
  have CA : Hid (∀ W, Calls Tryd.prog 105 #[cells4 q, .int .i64 nd] W (RetP (.tuple #[.int .i64 (acrI q nd), .bool (acrB q nd)]) W)) := Lib.hid (fun W => across_any q nd W)
  obtain ⟨av, hav⟩ : ∃ v, acrI q nd = v := ⟨_, rfl⟩
  obtain ⟨ab, hab⟩ : ∃ v, acrB q nd = v := ⟨_, rfl⟩
  rw [hav, hab] at CA
  have HCP : Hid (closP fs xs ns (k : Int) ↔ (ab = true ∧ av = ns.getLastD 0 ∧ xs.getLastD 0 < (k : Int))) := Lib.hid (by
    unfold closP
    rw [HHD.out, HQ.out, hav, hab]
    exact ⟨fun h => h.2, fun h => ⟨⟨⟨by omega, by have := HKL.out; omega⟩, HNE.out⟩, h⟩⟩)
  obtain ⟨qa, qb, qc, qd⟩ := q
  simp only at r0 r1 r2 r3
  unfold cells4 at CA
  simp only at CA
  clear hin hq hav hab hkl
  obtain ⟨T, f, x0, hx0, hT, HST⟩ := above w1
  haveI : Nonempty T := ⟨x0⟩
  have s0 : ∀ x, (f x).cell? ⟨w.heap.size, 1, none⟩ = some (.slice (some ⟨g2, 0, none⟩) n2 c2) := fun x => ((hT x).cell (p := ⟨_, _, none⟩) q4).trans q1
  have s1 : ∀ x, (f x).cell? ⟨g2, k * 4, none⟩ = some (.int .i64 qa) := fun x => ((hT x).cell (p := ⟨_, _, none⟩) hgv).trans r0
  have s2 : ∀ x, (f x).cell? ⟨g2, k * 4 + 1, none⟩ = some (.int .i64 qb) := fun x => ((hT x).cell (p := ⟨_, _, none⟩) hgv).trans r1
  have s3 : ∀ x, (f x).cell? ⟨g2, k * 4 + 2, none⟩ = some (.int .i64 qc) := fun x => ((hT x).cell (p := ⟨_, _, none⟩) hgv).trans r2
  have s4 : ∀ x, (f x).cell? ⟨g2, k * 4 + 3, none⟩ = some (.int .i64 qd) := fun x => ((hT x).cell (p := ⟨_, _, none⟩) hgv).trans r3
  have s5 : ∀ x, (f x).cell? ⟨g, 0, none⟩ = some (.int .i64 nd) := fun x => ((hT x).cell (p := ⟨_, _, none⟩) q5).trans q2
  have HT := Lib.hid hT; have HXX := Lib.hid hx0
  go_wp2_with fail
  clear hT hx0 q0 q1 q2 q3 r0 r1 r2 r3 hm1 hm2 hm3
  refine wp_region_class f (by kernel_rfl) (by kernel_rfl) x0 HXX.out ?_
  repeat (go_big_quiet_step ((go_at_call 105; exact Calls.inClass HST (CA.out _))))
  refine wpQuiet_nil ?_
  rintro _ ⟨x, rfl⟩
  have HB2 := Lib.hid (HT.out x)
  clear s0 s1 s2 s3 s4 s5
  generalize f x = w2 at HB2 ⊢
  have HB02 := Lib.hid (HB1.out.trans (HB2.out.mono HB1.out.size))
  have HL2 := Lib.hid (HL.out.over HB02.out)
  clear HT HXX HST CA
  cases ab
  case false =>
    have HE : Hid (false = rb) := Lib.hid (by rw [← HRB.out, pb_false (fun h => by have := (HCP.out.1 h).1; cases this)])
    go_wp2
    go_ret
    exact ⟨retb HE.out, HB02.out⟩
  case true =>
  have CN := Lib.hid (nodes_ w2 HL2.out (by rw [HM.out]; exact hx))
  rw [HM.out] at CN
  obtain ⟨M1, hM1⟩ : ∃ M1, m + 1 = M1 := ⟨_, rfl⟩
  rw [hM1] at CN
  have HM1 : Hid (M1 = ns.length) := Lib.hid (by rw [HNL.out, HM.out, hM1])
  have hM1p : 0 < M1 := by omega
  clear hM1
  go_wp2_with fail
  refine CN.out.mono ?_
  rintro e w3 ⟨gN, rfl, ho3, hb3⟩
  have HB3 := Lib.hid (HB02.out.trans (hb3.mono HB02.out.size))
  have hc3 := own_first ho3 (by have := HM1.out; omega) HM1.out
  have hg3 := (ho3.lt gN rfl).2
  have HL3 := Lib.hid (HL2.out.over hb3)
  clear ho3 hb3
  obtain ⟨fn, hfn⟩ : ∃ v, ns.getLastD 0 = v := ⟨_, rfl⟩
  rw [hfn] at hc3 HCP
  clear hfn
  have hM1I : (0 : Int) < (M1 : Int) := by omega
  by_cases hav : av = fn
  case neg =>
    have HE : Hid (false = rb) := Lib.hid (by rw [← HRB.out, pb_false (fun h => hav (HCP.out.1 h).2.1)])
    have h1 : (av == fn) = false := beq_eq_false_iff_ne.2 hav
    have h2 : decide (av = fn) = false := decide_eq_false hav
    clear hav
    go_wp2
    go_ret
    exact ⟨retb HE.out, HB3.out⟩
  case pos =>
  subst hav
  have CF := Lib.hid (fibers_ w3 HL3.out (by rw [HM.out]; exact hx))
  rw [HM.out] at CF
  have hmI : (0 : Int) < (m : Int) := by omega
  have hee : (av == av) = true := beq_self_eq_true _
  go_wp2_with fail
  refine CF.out.mono ?_
  rintro e w4 ⟨gF, rfl, ho4, hb4⟩
  have HB4 := Lib.hid (HB3.out.trans (hb4.mono HB3.out.size))
  have hc4 := own_first ho4 (by rw [HM.out]; exact hm0) HM.out.symm
  clear ho4 hb4 hc3
  obtain ⟨ff, hff⟩ : ∃ v, xs.getLastD 0 = v := ⟨_, rfl⟩
  rw [hff] at hc4 HCP
  clear hff
  have HE : Hid (decide (ff < (k : Int)) = rb) := Lib.hid (by
    rw [← HRB.out]
    by_cases h : ff < (k : Int)
    · rw [pb_true (HCP.out.2 ⟨trivial, trivial, h⟩), decide_eq_true h]
    · rw [pb_false (fun h9 => h (HCP.out.1 h9).2.2), decide_eq_false h])
  go_wp2
  go_ret
  exact ⟨retb HE.out, HB4.out⟩
theorem rd_takeI {w : World} {B : Nat} {A : Option Addr} {fl : List Int} (h : Rd w B A (fl.map (Value.int .i64))) (k : Nat) : Rd w B A ((fl.take k).map (Value.int .i64)) := fun j v hv => h j v (by
  rw [List.getElem?_map] at hv ⊢
  rw [List.getElem?_take] at hv
  split at hv
  · exact hv
  · simp at hv)
/-- the ring of a valid network, its nodes the latest first. -/
noncomputable def rgQ (ss : List ByteArray) (fs : List Q4) (fl : List Int) : Option (List Int) := if pb (netP ss fs) then rgI fs fl else none
def RingP (ss : List ByteArray) (fs : List Q4) (fl : List Int) (w : World) (e : Ending) (w' : World) : Prop :=
  Below w.heap.size w w' ∧ ((rgQ ss fs fl = none ∧ e = .returned (.tuple #[.pointer none, .bool false])) ∨
    ∃ vs g', rgQ ss fs fl = some vs ∧ e = .returned (.tuple #[.pointer (some ⟨g', 0, none⟩), .bool true]) ∧ Lk fs w' g' fl.dropLast.reverse vs)
theorem rgI_short {fs : List Q4} {fl : List Int} (h : fl.length < 2) : rgI fs fl = none := by unfold rgI; rw [if_neg (fun h9 => by omega)]
theorem rgI_out {fs : List Q4} {x : Int} {r : List Int} (h : ¬ (0 ≤ x ∧ x < fs.length)) : rgI fs (x :: r) = none := by unfold rgI; rw [if_neg (fun h9 => h h9.2)]
theorem rgI_lost {fs : List Q4} {x : Int} {r : List Int} (h : walkR fs (x :: r).dropLast [(fibI fs x).a] = none) : rgI fs (x :: r) = none := by
  unfold rgI
  split
  · rw [show (x :: r).headD 0 = x from rfl, h]
  · rfl
theorem min_le (l : List Int) : ∀ (b : Int), (∀ x ∈ l, l.foldl min b ≤ x) ∧ l.foldl min b ≤ b ∧ (l.foldl min b = b ∨ l.foldl min b ∈ l) := by
  induction l with
  | nil => intro b; simp
  | cons a l ih =>
    intro b
    obtain ⟨h1, h2, h3⟩ := ih (min b a)
    simp only [List.foldl_cons]
    refine ⟨fun x hx => ?_, by omega, ?_⟩
    · rcases List.mem_cons.1 hx with rfl | hx
      · omega
      · exact h1 x hx
    · rcases h3 with h3 | h3
      · rw [h3]
        by_cases hb : b ≤ a
        · left; omega
        · right; have : min b a = a := by omega
          rw [this]; simp
      · right; exact List.mem_cons_of_mem _ h3
theorem minOf_eq {l : List Int} {A : Int} (hA : A ∈ l) : Lib.minOf l = A ↔ ∀ v ∈ l, A ≤ v := by
  unfold Lib.minOf
  obtain ⟨h1, h2, h3⟩ := min_le l (l.headD 0)
  have hh : l.headD 0 ∈ l := by
    cases l with
    | nil => simp at hA
    | cons a r => simp
  have hm : l.foldl min (l.headD 0) ∈ l := by
    rcases h3 with h3 | h3
    · rw [h3]; exact hh
    · exact h3
  constructor
  · intro h v hv; rw [← h]; exact h1 v hv
  · intro h
    have k1 := h _ hm
    have k2 := h1 A hA
    omega
theorem clos_of {fs : List Q4} {x : Int} {r vs : List Int} (h2 : 2 ≤ (x :: r).length) (h0 : 0 ≤ x ∧ x < fs.length) (hw : walkR fs (x :: r).dropLast [(fibI fs x).a] = some vs) (hA : ∀ v ∈ vs, (fibI fs x).a ≤ v) :
    (closP fs (x :: r).dropLast.reverse vs ((x :: r).getLastD 0) → rgI fs (x :: r) = some vs) ∧ (¬ closP fs (x :: r).dropLast.reverse vs ((x :: r).getLastD 0) → rgI fs (x :: r) = none) := by
  obtain ⟨f0, mid, last, e1, e2, e3, e4⟩ := ring_parts h2
  have hx : x = f0 := by rw [← e2]; rfl
  obtain ⟨p, hp⟩ := walkR_sub hw
  have hl : vs.getLastD 0 = (fibI fs x).a := by rw [hp, List.getLastD_eq_getLast?, List.getLast?_append]; simp
  have hx2 : (x :: r).dropLast.reverse.getLastD 0 = x := by rw [e4, hx, List.getLastD_eq_getLast?, List.getLast?_reverse]; rfl
  have hne : (x :: r).dropLast.reverse ≠ [] := by rw [e4]; simp
  unfold closP rgI
  rw [if_pos ⟨h2, h0⟩, show (x :: r).headD 0 = x from rfl, hw]
  simp only
  rw [hl, hx2]
  constructor
  · intro h; rw [if_pos ⟨hA, h.1.1, h.2.1, h.2.2.1, h.2.2.2⟩]
  · intro h; rw [if_neg (fun h9 => h ⟨⟨h9.2.1, hne⟩, h9.2.2.1, h9.2.2.2.1, h9.2.2.2.2⟩)]
theorem rgI_high {fs : List Q4} {x : Int} {r vs : List Int} (hw : walkR fs (x :: r).dropLast [(fibI fs x).a] = some vs) (hA : ¬ ∀ v ∈ vs, (fibI fs x).a ≤ v) : rgI fs (x :: r) = none := by
  unfold rgI
  split
  · rw [show (x :: r).headD 0 = x from rfl, hw]
    simp only
    rw [if_neg (fun h => hA h.1)]
  · rfl

set_option maxRecDepth 100000 in
set_option maxHeartbeats 4000000 in
theorem ringWalk_ {g1 g2 n1 n2 c1 c2 : Nat} {ss : List ByteArray} {fs : List Q4} {w : World} (h : NetAt g1 g2 n1 n2 c1 c2 ss fs w)
    {A : Option Addr} {n c : Nat} {fl : List Int} (hn : fl.length = n) (hr : Rd w w.heap.size A (fl.map (Value.int .i64))) (hx : n ≤ 1048576) (hcp : n ≤ c) :
    Calls Tryd.prog 57 #[.agg #[.slice (some ⟨g1, 0, none⟩) n1 c1, .slice (some ⟨g2, 0, none⟩) n2 c2], .slice A n c] w (RingP ss fs fl w) := by
  have HN := Lib.hid hn; have HNT := Lib.hid h; have HR := Lib.hid hr; have HLN := Lib.hid h.ln2
  have hs2 := h.sm2
  clear h hn hr
  go_enter Tryd.func57, Tryd.ntmps57
  go_wp2_with fail
  obtain ⟨W0, hW0⟩ : ∃ W0, w.alloc (Obj.cells #[.slice (some ⟨g1, 0, none⟩) n1 c1, .slice (some ⟨g2, 0, none⟩) n2 c2] 32) = W0 := ⟨_, rfl⟩
  have hb0 : Below w.heap.size w W0 := by rw [← hW0]; exact (Below.refl _ _).alloc (Nat.le_refl _) _
  have k0 : W0.cell? ⟨w.heap.size, 0, none⟩ = some (.slice (some ⟨g1, 0, none⟩) n1 c1) := by rw [← hW0]; simp [go_sem]
  have k1 : W0.cell? ⟨w.heap.size, 1, none⟩ = some (.slice (some ⟨g2, 0, none⟩) n2 c2) := by rw [← hW0]; simp [go_sem]
  have hz0 : w.heap.size < W0.heap.size := by rw [← hW0]; simp
  have HB0 := Lib.hid hb0
  have HK : Hid (∀ u, Below W0.heap.size W0 u → u.cell? ⟨w.heap.size, 0, none⟩ = some (.slice (some ⟨g1, 0, none⟩) n1 c1) ∧ u.cell? ⟨w.heap.size, 1, none⟩ = some (.slice (some ⟨g2, 0, none⟩) n2 c2) ∧ w.heap.size < u.heap.size) := Lib.hid fun u hu => ⟨(hu.cell (p := ⟨w.heap.size, 0, none⟩) hz0).trans k0, (hu.cell (p := ⟨w.heap.size, 1, none⟩) hz0).trans k1, Nat.lt_of_lt_of_le hz0 hu.size⟩
  rw [hW0]
  clear hW0 hb0 k0 k1 hz0
  obtain ⟨T, f, x0, hx0, hT, HST⟩ := above W0
  haveI : Nonempty T := ⟨x0⟩
  have HTT : Hid (∀ x, Below w.heap.size w (f x)) := Lib.hid fun x => HB0.out.trans ((hT x).mono HB0.out.size)
  have s0 : ∀ x, (f x).cell? ⟨w.heap.size, 0, none⟩ = some (.slice (some ⟨g1, 0, none⟩) n1 c1) := fun x => (HK.out _ (hT x)).1
  have s1 : ∀ x, (f x).cell? ⟨w.heap.size, 1, none⟩ = some (.slice (some ⟨g2, 0, none⟩) n2 c2) := fun x => (HK.out _ (hT x)).2.1
  have s2 : ∀ x, w.heap.size < (f x).heap.size := fun x => (HK.out _ (hT x)).2.2
  obtain ⟨vb, hvb⟩ : ∃ b, pb (netP ss fs) = b := ⟨_, rfl⟩
  have CV : Hid (∀ x, Calls Tryd.prog 68 #[.agg #[.slice (some ⟨g1, 0, none⟩) n1 c1, .slice (some ⟨g2, 0, none⟩) n2 c2]] (f x) (BoolP vb (f x))) := Lib.hid fun x => by rw [← hvb]; exact implNet_ (HNT.out.moved (HTT.out x))
  have HVB := Lib.hid hvb
  have HT := Lib.hid hT; have HXX := Lib.hid hx0
  clear hvb hT hx0
  cases vb
  case false =>
    have HE : Hid (rgQ ss fs fl = none) := Lib.hid (by unfold rgQ; rw [HVB.out]; rfl)
    refine wp_region_class f (by kernel_rfl) (by kernel_rfl) x0 HXX.out ?_
    repeat (go_big_quiet_step ((go_at_call 68; exact Calls.inClass HST (CV.out _))))
    refine wpQuiet_nil ?_
    rintro _ ⟨x, rfl⟩
    have HB1 := Lib.hid (HTT.out x)
    clear s0 s1 s2
    generalize f x = w1 at HB1 ⊢
    go_wp2
    go_ret2
    exact ⟨HB1.out, .inl ⟨HE.out, rfl⟩⟩
  case true =>
  have HV := Lib.hid (of_pb HVB.out)
  have HQE : Hid (rgQ ss fs fl = rgI fs fl) := Lib.hid (by unfold rgQ; rw [HVB.out]; rfl)
  by_cases hl2 : n < 2
  case pos =>
    have HE : Hid (rgQ ss fs fl = none) := Lib.hid (by rw [HQE.out]; exact rgI_short (by have := HN.out; omega))
    have h1 : (n : Int) < 2 := by omega
    have h2 : decide ((n : Int) < 2) = true := decide_eq_true h1
    clear hl2
    refine wp_region_class f (by kernel_rfl) (by kernel_rfl) x0 HXX.out ?_
    repeat (go_big_quiet_step ((go_at_call 68; exact Calls.inClass HST (CV.out _))))
    refine wpQuiet_nil ?_
    rintro _ ⟨x, rfl⟩
    have HB1 := Lib.hid (HTT.out x)
    clear s0 s1 s2
    generalize f x = w1 at HB1 ⊢
    go_wp2
    go_ret2
    exact ⟨HB1.out, .inl ⟨HE.out, rfl⟩⟩
  case neg =>
  obtain ⟨x, r, hfl⟩ : ∃ x r, fl = x :: r := by
    cases fl with
    | nil => have := HN.out; simp at this; omega
    | cons x r => exact ⟨x, r, rfl⟩
  subst hfl
  have h1 : ¬ ((n : Int) < 2) := by omega
  have h2 : decide ((n : Int) < 2) = false := decide_eq_false h1
  have hnp : (0 : Int) < (n : Int) := by omega
  obtain ⟨ad, rfl, had, hcx⟩ := ints_at HR.out (k := 0) (by simp)
  simp only [List.getElem_cons_zero] at hcx
  have ea : ad.add 0 = ad := by cases ad; rfl
  rw [ea] at hcx
  have s3 : ∀ t, (f t).cell? ad = some (.int .i64 x) := fun t => ((HTT.out t).cell (p := ad) had).trans hcx
  have s4 : ∀ t, ad.block < (f t).heap.size := fun t => Nat.lt_of_lt_of_le had (HTT.out t).size
  have HCX : Hid (∀ u, Below w.heap.size w u → u.cell? ad = some (.int .i64 x) ∧ ad.block < u.heap.size) := Lib.hid fun u hu => ⟨(hu.cell (p := ad) had).trans hcx, Nat.lt_of_lt_of_le had hu.size⟩
  clear ea hcx had
  by_cases hin : 0 ≤ x ∧ x < (n2 : Int)
  case neg =>
    have HE : Hid (rgQ ss fs (x :: r) = none) := Lib.hid (by rw [HQE.out]; exact rgI_out (fun h => hin (by have := HLN.out; omega)))
    have CF : Hid (∀ t, Calls Tryd.prog 81 #[.agg #[.slice (some ⟨g1, 0, none⟩) n1 c1, .slice (some ⟨g2, 0, none⟩) n2 c2], .int .i64 x] (f t) fun e w' => e = .returned (.bool false) ∧ Below (f t).heap.size (f t) w') := Lib.hid fun t => isFib_no x (f t) (by omega)
    clear hin hl2
    refine wp_region_class f (by kernel_rfl) (by kernel_rfl) x0 HXX.out ?_
    repeat (go_big_quiet_step (first | (go_at_call 68; exact Calls.inClass HST (CV.out _)) | (go_at_call 81; exact Calls.inClass HST (CF.out _))))
    refine wpQuiet_nil ?_
    rintro _ ⟨x, rfl⟩
    have HB1 := Lib.hid (HTT.out x)
    clear s0 s1 s2 s3 s4
    generalize f x = w1 at HB1 ⊢
    go_wp2
    go_ret2
    exact ⟨HB1.out, .inl ⟨HE.out, rfl⟩⟩
  case pos =>
  have CF : Hid (∀ t, Calls Tryd.prog 81 #[.agg #[.slice (some ⟨g1, 0, none⟩) n1 c1, .slice (some ⟨g2, 0, none⟩) n2 c2], .int .i64 x] (f t) fun e w' => e = .returned (.bool true) ∧ Below (f t).heap.size (f t) w') := Lib.hid fun t => isFib_yes x (f t) hin.1 hin.2
  refine wp_region_class f (by kernel_rfl) (by kernel_rfl) x0 HXX.out ?_
  repeat (go_big_quiet_step (first | (go_at_call 68; exact Calls.inClass HST (CV.out _)) | (go_at_call 81; exact Calls.inClass HST (CF.out _))))
  refine wpQuiet_nil ?_
  rintro _ ⟨t, rfl⟩
  have HB1 := Lib.hid (HTT.out t)
  have HB01 := Lib.hid (HT.out t)
  clear s0 s1 s2 s3 s4
  generalize f t = w1 at HB1 HB01 ⊢
  clear HT HXX HST CV CF HTT
  obtain ⟨k, rfl⟩ : ∃ k : Nat, x = k := ⟨x.toNat, by omega⟩
  have hkn : k < n2 := by omega
  have hkl : k < fs.length := by have := HLN.out; omega
  obtain ⟨q, hq⟩ : ∃ q, fs[k]'hkl = q := ⟨_, rfl⟩
  have HQ : Hid (fibI fs (k : Int) = q) := Lib.hid (by rw [← hq]; unfold fibI; rw [List.getD_eq_getElem?_getD, show ((k : Int)).toNat = k by omega, List.getElem?_eq_getElem hkl]; rfl)
  have hr := (HNT.out.moved HB1.out).rd2.q4c hkl
  rw [Nat.zero_add, hq] at hr
  obtain ⟨qa, qb, qc, qd⟩ := q
  obtain ⟨hgv, r0, r1, r2, r3⟩ := hr
  simp only at r0
  obtain ⟨y0, y1, y2⟩ := HK.out w1 HB01.out
  obtain ⟨z0, z1⟩ := HCX.out w1 HB1.out
  have hkI : (k : Int) < (n2 : Int) := by omega
  clear hin hq r1 r2 r3
  go_wp2_with fail
  go_quiet (fail)
  obtain ⟨w2, hw2⟩ : ∃ w2, w1.drewN nq = w2 := ⟨_, rfl⟩
  have HB2 : Hid (Below w.heap.size w w2) := Lib.hid (by rw [← hw2]; exact drewN_below_ HB1.out _)
  have HB02 : Hid (Below W0.heap.size W0 w2) := Lib.hid (by rw [← hw2]; exact drewN_below_ HB01.out _)
  rw [hw2]
  clear hw2 y0 y1 y2 z0 z1 r0 hgv
  obtain ⟨m, hm⟩ : ∃ m, n = m + 1 := ⟨n - 1, by omega⟩
  have hm0 : 0 < m := by omega
  have hmc : m ≤ c := by omega
  have hmx : m ≤ 1048576 := by omega
  have HNM := Lib.hid hm
  have e1 : IntKind.i64.wrap ((n : Int) - 1) = (m : Int) := by rw [IntWalk.i64_in _ (by omega)]; omega
  have hmn : m < n := by omega
  have hmnI : (m : Int) < (n : Int) := by omega
  have HDL : Hid (((k : Int) :: r).dropLast = ((k : Int) :: r).take m) := Lib.hid (by rw [List.dropLast_eq_take]; congr 1; have := HN.out; omega)
  have HQA : Hid ((fibI fs (k : Int)).a = qa) := Lib.hid (by rw [HQ.out])
  have CA : Hid (∀ W b, Below w2.heap.size w2 W → W.heap[b]? = some (.cells #[.int .i64 qa, .int .i64 0, .int .i64 0, .int .i64 0, .pointer none] 121 (0, 0)) → Calls Tryd.prog 82 #[.pointer (some ⟨b, 0, none⟩), .agg #[.slice (some ⟨g1, 0, none⟩) n1 c1, .slice (some ⟨g2, 0, none⟩) n2 c2], .slice (some ad) m c] W fun e w' => ∃ p ob, e = .returned (.tuple #[.pointer p, .bool ob]) ∧ Hid ((ob = false ∧ p = none ∧ walkR fs ((k : Int) :: r).dropLast [qa] = none) ∨ ∃ vs g', ob = true ∧ p = some ⟨g', 0, none⟩ ∧ walkR fs ((k : Int) :: r).dropLast [qa] = some vs ∧ Lk fs w' g' (((k : Int) :: r).dropLast.reverse ++ []) vs) ∧ Below W.heap.size W w') := Lib.hid (fun W b hW hb => (along_ (HNT.out.moved (HB2.out.trans (hW.mono HB2.out.size))) HV.out (xs := []) (ns := [qa]) (fl := ((k : Int) :: r).dropLast) ⟨qa, rfl, hb⟩ (by rw [HDL.out, List.length_take]; have := HN.out; omega) (by rw [HDL.out]; exact rd_takeI (HR.out.moved (HB2.out.trans (hW.mono HB2.out.size))) m) (by simp; omega)).mono (fun e w' h => by
    obtain ⟨h1, h2⟩ := h
    rcases h2 with ⟨h2, rfl⟩ | ⟨vs, g', h2, rfl, h3⟩
    · exact ⟨_, _, rfl, Lib.hid (.inl ⟨rfl, rfl, h2⟩), h1⟩
    · exact ⟨_, _, rfl, Lib.hid (.inr ⟨vs, g', rfl, rfl, h2, h3⟩), h1⟩))
  obtain ⟨y0, y1, y2⟩ := HK.out w2 HB02.out
  clear hm hl2 h1 h2 hnp hkn hkl
  go_wp2_with fail
  go_region_with ((go_at_call 82; refine (CA.out _ _ ?_ ?_).mono ?_; (first | exact (Below.refl _ _).alloc (Nat.le_refl _) _ | exact ((Below.refl _ _).alloc (Nat.le_refl _) _).drew | exact drewN_below_ ((Below.refl _ _).alloc (Nat.le_refl _) _) _ | exact (Below.refl _ _).drew.alloc (Nat.le_refl _) _ | exact (drewN_below_ (Below.refl _ _) _).alloc (Nat.le_refl _) _); (exact heap_alloc_new _ _); rintro e w3 ⟨p, ob, rfl, H3, hb3⟩))
  all_goals
    have hbx : Below w2.heap.size w2 (w2.alloc (Obj.cells #[.int .i64 qa, .int .i64 0, .int .i64 0, .int .i64 0, .pointer none] 121)).drew := ((Below.refl _ _).alloc (Nat.le_refl _) _).drew
    have hbz := hbx.trans (hb3.mono hbx.size)
    have HB3 := Lib.hid (HB2.out.trans (hbz.mono HB2.out.size))
    have HB03 := Lib.hid (HB02.out.trans (hbz.mono HB02.out.size))
    clear hbx hbz
    clear hb3 y0 y1 y2 e1
    rcases H3.out with ⟨rfl, rfl, hwn⟩ | ⟨vs, g', rfl, rfl, hws, hlk⟩
    · have HE : Hid (rgQ ss fs ((k : Int) :: r) = none) := Lib.hid (by rw [HQE.out]; exact rgI_lost (by rw [HQA.out]; exact hwn))
      clear hwn
      go_wp2_with fail
      go_quiet (fail)
      obtain ⟨w4, hw4⟩ : ∃ w4, w3.drewN nq = w4 := ⟨_, rfl⟩
      have HB4 : Hid (Below w.heap.size w w4) := Lib.hid (by rw [← hw4]; exact drewN_below_ HB3.out _)
      rw [hw4]
      clear hw4
      go_wp2
      go_ret2
      exact ⟨HB4.out, .inl ⟨HE.out, rfl⟩⟩
    rw [List.append_nil] at hlk
    have HLK := Lib.hid hlk
    have HDN : Hid (((k : Int) :: r).dropLast.reverse.length = m) := Lib.hid (by rw [List.length_reverse, HDL.out, List.length_take]; have := HN.out; omega)
    have HWS : Hid (walkR fs ((k : Int) :: r).dropLast [(fibI fs (k : Int)).a] = some vs) := Lib.hid (by rw [HQA.out]; exact hws)
    have HAM : Hid (qa ∈ vs.reverse) := Lib.hid (by
      obtain ⟨p, hp⟩ := walkR_sub hws
      rw [hp]; simp)
    obtain ⟨mn, hmn9⟩ : ∃ v, Lib.minOf vs.reverse = v := ⟨_, rfl⟩
    have HMN : Hid (mn = qa ↔ ∀ v ∈ vs, qa ≤ v) := Lib.hid (by
      rw [← hmn9, minOf_eq HAM.out]
      exact ⟨fun h v hv => h v (by simpa using hv), fun h v hv => h v (by simpa using hv)⟩)
    have HMV := Lib.hid hmn9
    have HVL : Hid (vs.reverse.length = m + 1) := Lib.hid (by rw [List.length_reverse, hlk.len, HDN.out])
    have CN : Hid (∀ U, Below w3.heap.size w3 U → Calls Tryd.prog 84 #[.pointer (some ⟨g', 0, none⟩)] U fun e w' => ∃ gN, e = .returned (.slice (some ⟨gN, 0, none⟩) (m + 1) (m + 1)) ∧ Hid (w'.ownsRow U.heap.size 3 1 (.slice (some ⟨gN, 0, none⟩) (m + 1) (m + 1)) (m + 1) (vs.reverse.map (Value.int .i64))) ∧ Below U.heap.size U w') := Lib.hid (fun U hU => by
      have h9 := nodes_ U (HLK.out.over hU) (by rw [HDN.out]; exact hmx)
      rw [HDN.out] at h9
      exact h9.mono fun e w' ⟨gN, a, b, c⟩ => ⟨gN, a, Lib.hid b, c⟩)
    have CM : Hid (∀ (U : World) (B gN : Nat), U.ownsRow B 3 1 (.slice (some ⟨gN, 0, none⟩) (m + 1) (m + 1)) (m + 1) (vs.reverse.map (Value.int .i64)) → Calls Tryd.prog 83 #[.slice (some ⟨gN, 0, none⟩) (m + 1) (m + 1)] U fun e w' => e = .returned (.int .i64 mn) ∧ w' = U) := Lib.hid (fun U B gN ho => by
      have h9 := Tryd.slices_Min_int gN 0 (m + 1) (m + 1) vs.reverse U (by omega) (by rw [HVL.out]; omega) (by omega) (fun j hj => by
        rw [Nat.zero_add, ho.cellAt j (by rw [HVL.out] at hj; omega), List.getElem?_map, List.getElem?_eq_getElem hj, List.getD_eq_getElem?_getD, List.getElem?_eq_getElem hj]; rfl)
      rw [List.take_of_length_le (by rw [HVL.out]; omega), HMV.out] at h9
      exact h9)
    clear hlk hws hmn9
    obtain ⟨M1, hM1⟩ : ∃ M1, m + 1 = M1 := ⟨_, rfl⟩
    rw [hM1] at CN CM
    have hM1q : 0 < M1 := by omega
    clear hM1
    have hM1p : (0 : Int) < (M1 : Int) := by omega
    by_cases hmq : mn = qa
    case neg =>
      have HE : Hid (rgQ ss fs ((k : Int) :: r) = none) := Lib.hid (by rw [HQE.out]; exact rgI_high HWS.out (fun h => hmq (HMN.out.2 (by rw [HQA.out] at h; exact h))))
      have hq1 : (mn != qa) = true := bne_iff_ne.2 hmq
      have hq2 : (mn == qa) = false := beq_eq_false_iff_ne.2 hmq
      have hq3 : decide (mn = qa) = false := decide_eq_false hmq
      clear hmq
      go_wp2_with fail
      refine wp_region_any (by kernel_rfl) ?_
      change wpAny _ _ _ _ _ _ _ (World.drew _)
      refine take_ (i := 0) (d := some 46) (v := .bool true) rfl rfl (by kernel_rfl) (by kernel_rfl) (by kernel_rfl) (fun _ _ _ h => h) (Or.inl ⟨by kernel_rfl, ?_⟩) ?_
      · intro w9; go_simp
      refine take_ (i := 1) (d := some 47) (v := .bool false) rfl rfl (by kernel_rfl) (by kernel_rfl) (by kernel_rfl) (fun _ _ _ h => h) (Or.inl ⟨by kernel_rfl, ?_⟩) ?_
      · intro w9; go_simp
      refine take_ (i := 2) (d := some 48) (v := .bool false) rfl rfl (by kernel_rfl) (by kernel_rfl) (by kernel_rfl) (fun _ _ _ h => h) (Or.inl ⟨by kernel_rfl, ?_⟩) ?_
      · intro w9; go_simp
      refine take_ (i := 3) (d := some 49) (v := (.pointer (some ⟨g', 0, none⟩))) rfl rfl (by kernel_rfl) (by kernel_rfl) (by kernel_rfl) (fun _ _ _ h => h) (Or.inl ⟨by kernel_rfl, ?_⟩) ?_
      · intro w9; go_simp
      refine take_ (i := 6) (d := some 52) (v := .int .i64 qa) rfl rfl (by kernel_rfl) (by kernel_rfl) (by kernel_rfl) (fun _ _ _ h => h) (Or.inl ⟨by kernel_rfl, ?_⟩) ?_
      · intro w9; go_simp
      refine wpAny_ready (rs := [4]) (by kernel_rfl) (by simp) ?_
      refine AllReady.cons rfl (fun K hK => ?_) ?_
      rotate_left
      · exact AllReady.nil
      go_simp
      go_at_call 84
      refine (CN.out _ (Below.refl _ _).drew).mono ?_
      rintro e u1 ⟨gN, rfl, HO9, hbA⟩
      refine hK _ _ ?_
      clear hK K
      refine wpAny_ready (rs := [5]) (by kernel_rfl) (by simp) ?_
      refine AllReady.cons rfl (fun K hK => ?_) ?_
      rotate_left
      · exact AllReady.nil
      go_simp
      go_at_call 83
      refine (CM.out _ _ _ HO9.out).mono ?_
      rintro e u2 ⟨rfl, rfl⟩
      refine hK _ _ ?_
      clear hK K
      refine take_ (i := 7) (d := some 53) (v := .bool true) rfl rfl (by kernel_rfl) (by kernel_rfl) (by kernel_rfl) (fun _ _ _ h => h) (Or.inl ⟨by kernel_rfl, ?_⟩) ?_
      · intro w9; go_simp
      refine take_ (i := 8) (d := some 54) (v := .bool true) rfl rfl (by kernel_rfl) (by kernel_rfl) (by kernel_rfl) (fun _ _ _ h => h) (Or.inl ⟨by kernel_rfl, ?_⟩) ?_
      · intro w9; go_simp
      refine take_ (i := 9) (d := some 55) (v := .bool true) rfl rfl (by kernel_rfl) (by kernel_rfl) (by kernel_rfl) (fun _ _ _ h => h) (Or.inl ⟨by kernel_rfl, ?_⟩) ?_
      · intro w9; go_simp
      refine take_ (i := 10) (d := some 56) (v := undef) rfl rfl (by kernel_rfl) (by kernel_rfl) (by kernel_rfl) (fun _ _ _ h => h) (Or.inr ⟨by kernel_rfl, rfl⟩) ?_
      refine take_ (i := 11) (d := some 57) (v := undef) rfl rfl (by kernel_rfl) (by kernel_rfl) (by kernel_rfl) (fun _ _ _ h => h) (Or.inr ⟨by kernel_rfl, rfl⟩) ?_
      refine take_ (i := 12) (d := some 58) (v := undef) rfl rfl (by kernel_rfl) (by kernel_rfl) (by kernel_rfl) (fun _ _ _ h => h) (Or.inr ⟨by kernel_rfl, rfl⟩) ?_
      refine take_ (i := 13) (d := some 59) (v := undef) rfl rfl (by kernel_rfl) (by kernel_rfl) (by kernel_rfl) (fun _ _ _ h => h) (Or.inr ⟨by kernel_rfl, rfl⟩) ?_
      refine take_ (i := 14) (d := some 60) (v := undef) rfl rfl (by kernel_rfl) (by kernel_rfl) (by kernel_rfl) (fun _ _ _ h => h) (Or.inr ⟨by kernel_rfl, rfl⟩) ?_
      refine take_ (i := 15) (d := some 61) (v := undef) rfl rfl (by kernel_rfl) (by kernel_rfl) (by kernel_rfl) (fun _ _ _ h => h) (Or.inr ⟨by kernel_rfl, rfl⟩) ?_
      refine take_ (i := 16) (d := some 62) (v := undef) rfl rfl (by kernel_rfl) (by kernel_rfl) (by kernel_rfl) (fun _ _ _ h => h) (Or.inr ⟨by kernel_rfl, rfl⟩) ?_
      refine take_ (i := 17) (d := some 63) (v := undef) rfl rfl (by kernel_rfl) (by kernel_rfl) (by kernel_rfl) (fun _ _ _ h => h) (Or.inr ⟨by kernel_rfl, rfl⟩) ?_
      refine take_ (i := 18) (d := some 64) (v := undef) rfl rfl (by kernel_rfl) (by kernel_rfl) (by kernel_rfl) (fun _ _ _ h => h) (Or.inr ⟨by kernel_rfl, rfl⟩) ?_
      refine take_ (i := 19) (d := some 65) (v := undef) rfl rfl (by kernel_rfl) (by kernel_rfl) (by kernel_rfl) (fun _ _ _ h => h) (Or.inr ⟨by kernel_rfl, rfl⟩) ?_
      refine take_ (i := 20) (d := some 66) (v := .bool true) rfl rfl (by kernel_rfl) (by kernel_rfl) (by kernel_rfl) (fun _ _ _ h => h) (Or.inl ⟨by kernel_rfl, ?_⟩) ?_
      · intro w9; go_simp
      refine wpAny_done (by kernel_rfl) ?_ _
      have HB9 := Lib.hid (HB3.out.trans (((Below.refl w3.heap.size w3).drew.trans (hbA.mono (Nat.le_refl _))).mono HB3.out.size))
      clear hbA HO9
      refine frame_ (φ := fun a => Exit.then _ _ Exit.normal a _) (b := ⟨#[.agg #[.slice (some ⟨g1, 0, none⟩) n1 c1, .slice (some ⟨g2, 0, none⟩) n2 c2], .slice (some ad) n c, .pointer (some ⟨w.heap.size, 0, none⟩), undef, .pointer none, .bool false, .int .i64 qa, .pointer (some ⟨g', 0, none⟩), .bool true, .agg #[.slice (some ⟨g1, 0, none⟩) n1 c1, .slice (some ⟨g2, 0, none⟩) n2 c2], .bool true, .bool false, .bool false, .slice (some ad) n c, .int .i64 (n : Int), .bool false, .bool false, .bool false, .agg #[.slice (some ⟨g1, 0, none⟩) n1 c1, .slice (some ⟨g2, 0, none⟩) n2 c2], .slice (some ad) n c, .pointer (some ad), .int .i64 (k : Int), .bool true, .bool false, .bool false, .pointer (some ⟨w.heap.size, 1, none⟩), .slice (some ⟨g2, 0, none⟩) n2 c2, .slice (some ad) n c, .pointer (some ad), .int .i64 (k : Int), .pointer (some ⟨g2, k * 4, none⟩), .pointer (some ⟨g2, k * 4, none⟩), .int .i64 qa, .tuple #[.pointer (some ⟨g', 0, none⟩), .bool true], .int .i64 qa, .agg #[.int .i64 qa, .int .i64 0, .int .i64 0, .int .i64 0, .pointer none], .pointer (some ⟨w2.heap.size, 0, none⟩), .agg #[.slice (some ⟨g1, 0, none⟩) n1 c1, .slice (some ⟨g2, 0, none⟩) n2 c2], .slice (some ad) n c, .slice (some ad) n c, .int .i64 (n : Int), .int .i64 (m : Int), .slice (some ad) m c, .tuple #[.pointer (some ⟨g', 0, none⟩), .bool true], .pointer (some ⟨g', 0, none⟩), .bool true, .bool true, .bool false, .bool false, .pointer (some ⟨g', 0, none⟩), .slice (some ⟨gN, 0, none⟩) M1 M1, .int .i64 mn, .int .i64 qa, .bool true, .bool true, .bool true, undef, undef, undef, undef, undef, undef, undef, undef, undef, undef, .bool true, undef], []⟩) (by kernel_rfl) ?_
      go_wp2
      go_ret2
      exact ⟨HB9.out, .inl ⟨HE.out, rfl⟩⟩
    case pos =>
    have HALL := Lib.hid (HMN.out.1 hmq)
    subst hmq
    have hq1 : (mn != mn) = false := by simp
    have hml : m < ((k : Int) :: r).length := by have := HN.out; have := HNM.out; omega
    obtain ⟨ad9, hA9, hbl9, hcell9⟩ := ints_at HR.out hml
    injection hA9 with hA9
    subst hA9
    obtain ⟨lx, hlx⟩ : ∃ v, ((k : Int) :: r)[m]'hml = v := ⟨_, rfl⟩
    rw [hlx] at hcell9
    have HLX : Hid (((k : Int) :: r).getLastD 0 = lx) := Lib.hid (by
      rw [List.getLastD_eq_getLast?, List.getLast?_eq_getElem?, show ((k : Int) :: r).length - 1 = m by have := HN.out; have := HNM.out; omega, List.getElem?_eq_getElem hml, hlx]; rfl)
    have HK9 : Hid (∀ U, Below w3.heap.size w3 U → U.cell? ⟨w.heap.size, 0, none⟩ = some (.slice (some ⟨g1, 0, none⟩) n1 c1) ∧ U.cell? ⟨w.heap.size, 1, none⟩ = some (.slice (some ⟨g2, 0, none⟩) n2 c2) ∧ w.heap.size < U.heap.size ∧ U.cell? (ad.add m) = some (.int .i64 lx)) := Lib.hid fun U hU => by
      obtain ⟨a, b, c⟩ := HK.out U (HB03.out.trans (hU.mono HB03.out.size))
      exact ⟨a, b, c, ((HB3.out.trans (hU.mono HB3.out.size)).cell (p := ad.add m) (by rw [addBlock]; exact hbl9)).trans hcell9⟩
    have HCO := Lib.hid (clos_of (x := (k : Int)) (r := r) (vs := vs) (fs := fs) (by have := HN.out; have := HNM.out; omega) ⟨by omega, by have := HLN.out; omega⟩ HWS.out (by rw [HQA.out]; exact HALL.out))
    rw [HLX.out] at HCO
    obtain ⟨cb, hcb⟩ : ∃ b, pb (closP fs ((k : Int) :: r).dropLast.reverse vs lx) = b := ⟨_, rfl⟩
    have HCB := Lib.hid hcb
    have CC : Hid (∀ U, Below w3.heap.size w3 U → Calls Tryd.prog 85 #[.pointer (some ⟨g', 0, none⟩), .agg #[.slice (some ⟨g1, 0, none⟩) n1 c1, .slice (some ⟨g2, 0, none⟩) n2 c2], .int .i64 lx] U (RetP (.bool cb) U)) := Lib.hid (fun U hU => by
      rw [← HCB.out]
      exact closes_ (HNT.out.moved (HB3.out.trans (hU.mono HB3.out.size))) (HLK.out.over hU) (by rw [HDN.out]; exact hmx) (fun e => by have := HDN.out; rw [e] at this; simp at this; omega) lx)
    have e1 : IntKind.i64.wrap ((n : Int) - 1) = (m : Int) := by rw [IntWalk.i64_in _ (by have := HNM.out; omega)]; have := HNM.out; omega
    obtain ⟨p0, p1, p2, p3⟩ := HK9.out w3 (Below.refl _ _)
    clear hml hbl9 hcell9 hlx hcb
    go_wp2_with fail
    refine wp_region_any (by kernel_rfl) ?_
    change wpAny _ _ _ _ _ _ _ (World.drew _)
    refine take_ (i := 0) (d := some 46) (v := .bool true) rfl rfl (by kernel_rfl) (by kernel_rfl) (by kernel_rfl) (fun _ _ _ h => h) (Or.inl ⟨by kernel_rfl, ?_⟩) ?_
    · intro w9; go_simp
    refine take_ (i := 1) (d := some 47) (v := .bool false) rfl rfl (by kernel_rfl) (by kernel_rfl) (by kernel_rfl) (fun _ _ _ h => h) (Or.inl ⟨by kernel_rfl, ?_⟩) ?_
    · intro w9; go_simp
    refine take_ (i := 2) (d := some 48) (v := .bool false) rfl rfl (by kernel_rfl) (by kernel_rfl) (by kernel_rfl) (fun _ _ _ h => h) (Or.inl ⟨by kernel_rfl, ?_⟩) ?_
    · intro w9; go_simp
    refine take_ (i := 3) (d := some 49) (v := (.pointer (some ⟨g', 0, none⟩))) rfl rfl (by kernel_rfl) (by kernel_rfl) (by kernel_rfl) (fun _ _ _ h => h) (Or.inl ⟨by kernel_rfl, ?_⟩) ?_
    · intro w9; go_simp
    refine take_ (i := 6) (d := some 52) (v := .int .i64 mn) rfl rfl (by kernel_rfl) (by kernel_rfl) (by kernel_rfl) (fun _ _ _ h => h) (Or.inl ⟨by kernel_rfl, ?_⟩) ?_
    · intro w9; go_simp
    refine wpAny_ready (rs := [4]) (by kernel_rfl) (by simp) ?_
    refine AllReady.cons rfl (fun K hK => ?_) ?_
    rotate_left
    · exact AllReady.nil
    go_simp
    go_at_call 84
    refine (CN.out _ (Below.refl _ _).drew).mono ?_
    rintro e u1 ⟨gN, rfl, HO9, hbA⟩
    have hbu : Below w3.heap.size w3 u1 := (Below.refl w3.heap.size w3).drew.trans (hbA.mono (Nat.le_refl _))
    obtain ⟨t0, t1, t2, t3⟩ := HK9.out u1 hbu
    refine hK _ _ ?_
    clear hK K
    refine wpAny_ready (rs := [5]) (by kernel_rfl) (by simp) ?_
    refine AllReady.cons rfl (fun K hK => ?_) ?_
    rotate_left
    · exact AllReady.nil
    go_simp
    go_at_call 83
    refine (CM.out _ _ _ HO9.out).mono ?_
    rintro e u2 ⟨rfl, rfl⟩
    refine hK _ _ ?_
    clear hK K
    refine take_ (i := 7) (d := some 53) (v := .bool false) rfl rfl (by kernel_rfl) (by kernel_rfl) (by kernel_rfl) (fun _ _ _ h => h) (Or.inl ⟨by kernel_rfl, ?_⟩) ?_
    · intro w9; go_simp
    refine take_ (i := 8) (d := some 54) (v := .bool false) rfl rfl (by kernel_rfl) (by kernel_rfl) (by kernel_rfl) (fun _ _ _ h => h) (Or.inl ⟨by kernel_rfl, ?_⟩) ?_
    · intro w9; go_simp
    refine take_ (i := 9) (d := some 55) (v := .bool false) rfl rfl (by kernel_rfl) (by kernel_rfl) (by kernel_rfl) (fun _ _ _ h => h) (Or.inl ⟨by kernel_rfl, ?_⟩) ?_
    · intro w9; go_simp
    refine take_ (i := 10) (d := some 56) (v := (.pointer (some ⟨g', 0, none⟩))) rfl rfl (by kernel_rfl) (by kernel_rfl) (by kernel_rfl) (fun _ _ _ h => h) (Or.inl ⟨by kernel_rfl, ?_⟩) ?_
    · intro w9; go_simp
    refine take_ (i := 12) (d := some 58) (v := (.slice (some ad) n c)) rfl rfl (by kernel_rfl) (by kernel_rfl) (by kernel_rfl) (fun _ _ _ h => h) (Or.inl ⟨by kernel_rfl, ?_⟩) ?_
    · intro w9; go_simp
    refine take_ (i := 13) (d := some 59) (v := (.slice (some ad) n c)) rfl rfl (by kernel_rfl) (by kernel_rfl) (by kernel_rfl) (fun _ _ _ h => h) (Or.inl ⟨by kernel_rfl, ?_⟩) ?_
    · intro w9; go_simp
    refine take_ (i := 14) (d := some 60) (v := .int .i64 (n : Int)) rfl rfl (by kernel_rfl) (by kernel_rfl) (by kernel_rfl) (fun _ _ _ h => h) (Or.inl ⟨by kernel_rfl, ?_⟩) ?_
    · intro w9; go_simp
    refine take_ (i := 15) (d := some 61) (v := .int .i64 (m : Int)) rfl rfl (by kernel_rfl) (by kernel_rfl) (by kernel_rfl) (fun _ _ _ h => h) (Or.inl ⟨by kernel_rfl, ?_⟩) ?_
    · intro w9; go_simp
    refine take_ (i := 16) (d := some 62) (v := (.pointer (some (ad.add m)))) rfl rfl (by kernel_rfl) (by kernel_rfl) (by kernel_rfl) (fun _ _ _ h => h) (Or.inl ⟨by kernel_rfl, ?_⟩) ?_
    · intro w9; go_simp
    refine wpAny_ready (rs := [11, 17]) (by kernel_rfl) (by simp) ?_
    refine AllReady.cons rfl (fun K hK => ?_) (AllReady.cons rfl (fun K hK => ?_) AllReady.nil)
    all_goals go_simp
    all_goals (refine hK _ _ ?_; clear hK K)
    · refine wpAny_ready (rs := [17]) (by kernel_rfl) (by simp) ?_
      refine AllReady.cons rfl (fun K hK => ?_) ?_
      rotate_left
      · exact AllReady.nil
      go_simp
      refine hK _ _ ?_
      clear hK K
      refine wpAny_ready (rs := [18]) (by kernel_rfl) (by simp) ?_
      refine AllReady.cons rfl (fun K hK => ?_) ?_
      rotate_left
      · exact AllReady.nil
      go_simp
      go_at_call 85
      refine (CC.out _ hbu).mono ?_
      rintro e u3 ⟨rfl, hbC⟩
      have hbv : Below w3.heap.size w3 u3 := hbu.trans (hbC.mono hbu.size)
      refine hK _ _ ?_
      clear hK K
      refine take_ (i := 19) (d := some 65) (v := .bool (!cb)) rfl rfl (by kernel_rfl) (by kernel_rfl) (by kernel_rfl) (fun _ _ _ h => h) (Or.inl ⟨by kernel_rfl, ?_⟩) ?_
      · intro w9; go_simp
      refine take_ (i := 20) (d := some 66) (v := .bool (!cb)) rfl rfl (by kernel_rfl) (by kernel_rfl) (by kernel_rfl) (fun _ _ _ h => h) (Or.inl ⟨by kernel_rfl, ?_⟩) ?_
      · intro w9; go_simp
      refine wpAny_done (by kernel_rfl) ?_ _
      have HBV := Lib.hid (HB3.out.trans (hbv.mono HB3.out.size))
      have HLV := Lib.hid (HLK.out.over hbv)
      clear hbv hbC hbu hbA HO9
      cases cb
      case false =>
        have HE : Hid (rgQ ss fs ((k : Int) :: r) = none) := Lib.hid (by rw [HQE.out]; exact HCO.out.2 (of_npb HCB.out))
        go_wp2
        go_ret2
        exact ⟨HBV.out, .inl ⟨HE.out, rfl⟩⟩
      case true =>
        have HE : Hid (rgQ ss fs ((k : Int) :: r) = some vs) := Lib.hid (by rw [HQE.out]; exact HCO.out.1 (of_pb HCB.out))
        go_wp2
        go_ret2
        exact ⟨HBV.out, .inr ⟨vs, g', HE.out, rfl, HLV.out⟩⟩
    · refine wpAny_ready (rs := [11]) (by kernel_rfl) (by simp) ?_
      refine AllReady.cons rfl (fun K hK => ?_) ?_
      rotate_left
      · exact AllReady.nil
      go_simp
      refine hK _ _ ?_
      clear hK K
      refine wpAny_ready (rs := [18]) (by kernel_rfl) (by simp) ?_
      refine AllReady.cons rfl (fun K hK => ?_) ?_
      rotate_left
      · exact AllReady.nil
      go_simp
      go_at_call 85
      refine (CC.out _ hbu).mono ?_
      rintro e u3 ⟨rfl, hbC⟩
      have hbv : Below w3.heap.size w3 u3 := hbu.trans (hbC.mono hbu.size)
      refine hK _ _ ?_
      clear hK K
      refine take_ (i := 19) (d := some 65) (v := .bool (!cb)) rfl rfl (by kernel_rfl) (by kernel_rfl) (by kernel_rfl) (fun _ _ _ h => h) (Or.inl ⟨by kernel_rfl, ?_⟩) ?_
      · intro w9; go_simp
      refine take_ (i := 20) (d := some 66) (v := .bool (!cb)) rfl rfl (by kernel_rfl) (by kernel_rfl) (by kernel_rfl) (fun _ _ _ h => h) (Or.inl ⟨by kernel_rfl, ?_⟩) ?_
      · intro w9; go_simp
      refine wpAny_done (by kernel_rfl) ?_ _
      have HBV := Lib.hid (HB3.out.trans (hbv.mono HB3.out.size))
      have HLV := Lib.hid (HLK.out.over hbv)
      clear hbv hbC hbu hbA HO9
      cases cb
      case false =>
        have HE : Hid (rgQ ss fs ((k : Int) :: r) = none) := Lib.hid (by rw [HQE.out]; exact HCO.out.2 (of_npb HCB.out))
        go_wp2
        go_ret2
        exact ⟨HBV.out, .inl ⟨HE.out, rfl⟩⟩
      case true =>
        have HE : Hid (rgQ ss fs ((k : Int) :: r) = some vs) := Lib.hid (by rw [HQE.out]; exact HCO.out.1 (of_pb HCB.out))
        go_wp2
        go_ret2
        exact ⟨HBV.out, .inr ⟨vs, g', HE.out, rfl, HLV.out⟩⟩
end Go.Proofs.YtkpendpjdemknaaDoor
