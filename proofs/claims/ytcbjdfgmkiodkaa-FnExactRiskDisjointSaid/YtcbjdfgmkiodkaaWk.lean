/- Walks over a network: what they are, how they lie in memory, and the contracts of the implementation's visits and over. No condition but those typed. -/
import Derived.Test.YtcbjdfgmkiodkaaOther
import Derived.Test.YtcbjdfgmkiodkaaRegion
import Derived.Deep.LoopGhost
import Derived.StillTailTactics
namespace Go.Proofs.Ytcbjdfgmkiodkaa
open Go.ChangeShapes Go.WideShapes Go.ChangeAt Go.RowKit

/-- one step of a walk whose nodes, the latest first, are ns. -/
def stepO (fs : List Q4) (ns : List Int) (x : Int) : Option Int :=
  if (0 ≤ x ∧ x < fs.length) ∧ acrB (fibI fs x) (ns.headD 0) = true ∧ ¬ acrI (fibI fs x) (ns.headD 0) ∈ ns then some (acrI (fibI fs x) (ns.headD 0)) else none
/-- a walk over fibers, one after the other; the nodes the latest first. -/
def walkR (fs : List Q4) : List Int → List Int → Option (List Int)
  | [], ns => some ns
  | x :: r, ns => match stepO fs ns x with
    | none => none
    | some nx => walkR fs r (nx :: ns)
def lenX (fs : List Q4) (xs : List Int) : Int := (xs.map fun x => (fibI fs x).c).sum
theorem lenX_cons (fs : List Q4) (x : Int) (xs : List Int) : lenX fs (x :: xs) = (fibI fs x).c + lenX fs xs := by unfold lenX; simp
theorem walkR_none {fs : List Q4} {x : Int} {r ns : List Int} (h : stepO fs ns x = none) : walkR fs (x :: r) ns = none := by rw [walkR, h]
theorem walkR_some {fs : List Q4} {x nx : Int} {r ns : List Int} (h : stepO fs ns x = some nx) : walkR fs (x :: r) ns = walkR fs r (nx :: ns) := by rw [walkR, h]
/-- a walk in memory: at block g, the fibers xs and the nodes ns, the latest first. -/
def Lk (fs : List Q4) (w : World) : Nat → List Int → List Int → Prop
  | g, [], ns => ∃ st, ns = [st] ∧ w.heap[g]? = some (.cells #[.int .i64 st, .int .i64 0, .int .i64 0, .int .i64 0, .pointer none] 213 (0, 0))
  | g, x :: xs, ns => ∃ nx ns' g', ns = nx :: ns' ∧ w.heap[g]? = some (.cells #[.int .i64 nx, .int .i64 (lenX fs (x :: xs)), .int .i64 ((x :: xs).length : Int), .int .i64 x, .pointer (some ⟨g', 0, none⟩)] 213 (0, 0)) ∧ Lk fs w g' xs ns'
theorem Lk.lt {fs : List Q4} {w : World} : ∀ {xs : List Int} {g : Nat} {ns : List Int}, Lk fs w g xs ns → g < w.heap.size
  | [], _, _, ⟨_, _, h⟩ => (Array.getElem?_eq_some_iff.1 h).1
  | _ :: _, _, _, ⟨_, _, _, _, h, _⟩ => (Array.getElem?_eq_some_iff.1 h).1
theorem Lk.over {fs : List Q4} {w w' : World} (hb : Below w.heap.size w w') : ∀ {xs : List Int} {g : Nat} {ns : List Int}, Lk fs w g xs ns → Lk fs w' g xs ns
  | [], g, _, ⟨st, e, h⟩ => ⟨st, e, (hb.block g (Array.getElem?_eq_some_iff.1 h).1).trans h⟩
  | _ :: _, g, _, ⟨nx, ns', g', e, h, r⟩ => ⟨nx, ns', g', e, (hb.block g (Array.getElem?_eq_some_iff.1 h).1).trans h, Lk.over hb r⟩
theorem Lk.len {fs : List Q4} {w : World} : ∀ {xs : List Int} {g : Nat} {ns : List Int}, Lk fs w g xs ns → ns.length = xs.length + 1
  | [], _, _, ⟨_, e, _⟩ => by rw [e]; rfl
  | _ :: xs, _, _, ⟨_, _, _, e, _, r⟩ => by rw [e, List.length_cons, r.len]; rfl
theorem Lk.see {fs : List Q4} {w : World} {xs : List Int} {g : Nat} {ns : List Int} (h : Lk fs w g xs ns) :
    ∃ (nd : Int) (tl : List Int) (la : Int) (p : Option Addr), ns = nd :: tl ∧ w.heap[g]? = some (.cells #[.int .i64 nd, .int .i64 (lenX fs xs), .int .i64 (xs.length : Int), .int .i64 la, .pointer p] 213 (0, 0)) ∧
      ((p = none ∧ xs = [] ∧ tl = []) ∨ ∃ g' x xs', p = some ⟨g', 0, none⟩ ∧ xs = x :: xs' ∧ x = la ∧ Lk fs w g' xs' tl) := by
  cases xs with
  | nil =>
    obtain ⟨st, e, h⟩ := h
    exact ⟨st, [], 0, none, e, h, .inl ⟨rfl, rfl, rfl⟩⟩
  | cons x xs =>
    obtain ⟨nx, ns', g', e, h, r⟩ := h
    exact ⟨nx, ns', x, _, e, h, .inr ⟨g', x, xs, rfl, rfl, rfl, r⟩⟩
theorem five_cells {W : World} {g : Nat} {T : TypeId} {a b c d e : Value} (hg : W.heap[g]? = some (.cells #[a, b, c, d, e] T (0, 0))) :
    W.cell? ⟨g, 0, none⟩ = some a ∧ W.cell? ⟨g, 1, none⟩ = some b ∧ W.cell? ⟨g, 2, none⟩ = some c ∧ W.cell? ⟨g, 3, none⟩ = some d ∧ W.cell? ⟨g, 4, none⟩ = some e :=
  ⟨cell_of_row W g 0 _ T _ hg, cell_of_row W g 1 _ T _ hg, cell_of_row W g 2 _ T _ hg, cell_of_row W g 3 _ T _ hg, cell_of_row W g 4 _ T _ hg⟩

set_option maxHeartbeats 1000000 in
theorem visits_ {fs : List Q4} {xs ns : List Int} {g : Nat} (node : Int) (w : World) (h : Lk fs w g xs ns) :
    Calls Try.prog 256 #[.pointer (some ⟨g, 0, none⟩), .int .i64 node] w fun e w' => e = .returned (.bool (decide (node ∈ ns))) ∧ w = w' := by
  obtain ⟨r, hr⟩ : ∃ r, decide (node ∈ ns) = r := ⟨_, rfl⟩
  rw [hr]
  have HR := Lib.hid hr; clear hr
  have HH := Lib.hid h; clear h
  go_enter Try.func256, Try.ntmps256
  go_wp2
  go_loopg [5] (xs.length + 1) (fun k p wr => w = wr ∧ ∃ q, p = .pointer q ∧ ((q = none ∧ Hid (¬ node ∈ ns)) ∨ ∃ g' xs' ns', q = some ⟨g', 0, none⟩ ∧ Hid (Lk fs w g' xs' ns' ∧ k = xs'.length + 1 ∧ (node ∈ ns ↔ node ∈ ns'))))
  case atStart => exact ⟨rfl, _, rfl, .inr ⟨g, xs, ns, rfl, Lib.hid ⟨HH.out, rfl, Iff.rfl⟩⟩⟩
  case round =>
    obtain ⟨rfl, q, rfl, hq⟩ := hrel
    rcases hq with ⟨rfl, hq⟩ | ⟨g', xs', ns', rfl, hq⟩
    · have HE : Hid (false = r) := Lib.hid (by rw [← HR.out]; exact (decide_eq_false hq.out).symm)
      go_wp2
      go_ret
      exact ⟨retb HE.out, rfl⟩
    · obtain ⟨nd, tl, la, p, e1, hh, hp⟩ := hq.out.1.see
      obtain ⟨f0, _, _, _, f4⟩ := five_cells hh
      have HP := Lib.hid hp
      have HE1 := Lib.hid e1
      clear hh hp e1
      by_cases hn : nd = node
      · have HE : Hid (true = r) := Lib.hid (by rw [← HR.out]; exact (decide_eq_true (hq.out.2.2.2 (by rw [HE1.out, hn]; simp))).symm)
        subst hn
        go_wp2
        go_ret
        exact ⟨retb HE.out, rfl⟩
      · have hn' : (nd == node) = false := by simpa using hn
        have HN := Lib.hid hn
        clear hn
        rcases HP.out with ⟨rfl, hx, ht⟩ | ⟨g2, x, xs2, rfl, hx, _, hl⟩
        · have HF : Hid (¬ node ∈ ns) := Lib.hid (fun h => by
            have := hq.out.2.2.1 h
            rw [HE1.out, ht] at this
            simp at this
            exact HN.out this.symm)
          have HGK : Hid (0 < gk) := Lib.hid (by have := hq.out.2.1; omega)
          clear hx ht
          go_wp2
          go_roundg 0
          case measure => exact HGK.out
          case rel => exact ⟨rfl, _, rfl, .inl ⟨rfl, HF⟩⟩
        · have HF : Hid (Lk fs w g2 xs2 tl ∧ xs2.length + 1 = xs2.length + 1 ∧ (node ∈ ns ↔ node ∈ tl)) := Lib.hid ⟨hl, rfl, by
            rw [hq.out.2.2, HE1.out]
            constructor
            · intro h
              rcases List.mem_cons.1 h with h | h
              · exact absurd h.symm HN.out
              · exact h
            · intro h; exact List.mem_cons_of_mem _ h⟩
          have HGK : Hid (xs2.length + 1 < gk) := Lib.hid (by have := hq.out.2.1; rw [hx] at this; simp at this; omega)
          clear hx hl
          go_wp2
          go_roundg (xs2.length + 1)
          case measure => exact HGK.out
          case rel => exact ⟨rfl, _, rfl, .inr ⟨g2, xs2, tl, rfl, Lib.hid ⟨HF.out.1, rfl, HF.out.2.2⟩⟩⟩

def OverP (fs : List Q4) (xs ns : List Int) (x : Int) (w : World) (e : Ending) (w' : World) : Prop :=
  Below w.heap.size w w' ∧ ((stepO fs ns x = none ∧ e = .returned (.tuple #[.pointer none, .bool false])) ∨
    ∃ nx g', stepO fs ns x = some nx ∧ e = .returned (.tuple #[.pointer (some ⟨g', 0, none⟩), .bool true]) ∧ Lk fs w' g' (x :: xs) (nx :: ns))
theorem over_no {fs : List Q4} {xs ns : List Int} {x : Int} {w w' : World} (hs : stepO fs ns x = none) (hb : Below w.heap.size w w') : OverP fs xs ns x w (.returned (.tuple #[.pointer none, .bool false])) w' := ⟨hb, .inl ⟨hs, rfl⟩⟩
theorem fib_c {ss : List ByteArray} {fs : List Q4} (hv : netP ss fs) (x : Int) : 0 ≤ (fibI fs x).c ∧ (fibI fs x).c ≤ 5000 := by
  unfold fibI
  rw [List.getD_eq_getElem?_getD]
  by_cases h : x.toNat < fs.length
  · rw [List.getElem?_eq_getElem h]
    have := (hv.2.2.2 x.toNat h h).1
    unfold fibP at this
    simp only [Option.getD_some]
    omega
  · rw [List.getElem?_eq_none (by omega)]
    simp
theorem lenX_bd {ss : List ByteArray} {fs : List Q4} (hv : netP ss fs) : ∀ xs : List Int, 0 ≤ lenX fs xs ∧ lenX fs xs ≤ 5000 * (xs.length : Int)
  | [] => by simp [lenX]
  | x :: xs => by
    have h1 := lenX_bd hv xs
    have h2 := fib_c hv x
    rw [lenX_cons, List.length_cons]
    omega

set_option maxRecDepth 100000 in
set_option maxHeartbeats 4000000 in
theorem over_ {g1 g2 n1 n2 c1 c2 : Nat} {ss : List ByteArray} {fs : List Q4} {w : World} (h : NetAt g1 g2 n1 n2 c1 c2 ss fs w) (hv : netP ss fs) {xs ns : List Int} {g : Nat} (hl : Lk fs w g xs ns) (hx : xs.length ≤ 1000000000000) (x : Int) :
    Calls Try.prog 236 #[.pointer (some ⟨g, 0, none⟩), .agg #[.slice (some ⟨g1, 0, none⟩) n1 c1, .slice (some ⟨g2, 0, none⟩) n2 c2], .int .i64 x] w (OverP fs xs ns x w) := by
  have HN := Lib.hid h; have HL := Lib.hid hl; have HV := Lib.hid hv; have HX := Lib.hid hx
  have hln := h.ln2
  have HLN := Lib.hid hln
  clear h hl hv hx hln
  by_cases hin : 0 ≤ x ∧ x < n2
  case neg =>
    have HS : Hid (stepO fs ns x = none) := Lib.hid (by unfold stepO; rw [if_neg (fun h => hin (by have := HLN.out; have := h.1; omega))])
    have CF := Lib.hid (fun W => isFib_no (g1 := g1) (g2 := g2) (n1 := n1) (n2 := n2) (c1 := c1) (c2 := c2) x W (by omega))
    have HB := Lib.hid ((Below.refl w.heap.size w).alloc (Nat.le_refl _) (Obj.cells #[.slice (some ⟨g1, 0, none⟩) n1 c1, .slice (some ⟨g2, 0, none⟩) n2 c2] 32))
    clear hin
    go_enter Try.func236, Try.ntmps236
    go_wp2_with fail
    refine (CF.out _).mono ?_
    rintro e w1 ⟨rfl, hb1⟩
    have HB1 := Lib.hid (HB.out.trans (hb1.mono (by simp)))
    clear hb1
    go_wp2
    go_ret2
    exact over_no HS.out HB1.out
  case pos =>
  have CF := Lib.hid (fun W => isFib_yes (g1 := g1) (g2 := g2) (n1 := n1) (n2 := n2) (c1 := c1) (c2 := c2) x W hin.1 hin.2)
  obtain ⟨k, rfl⟩ : ∃ k : Nat, x = k := ⟨x.toNat, by omega⟩
  have hks : k < fs.length := by have := HLN.out; omega
  obtain ⟨⟨qa, qb, qc, qd⟩, hq⟩ : ∃ q, fs[k]'hks = q := ⟨_, rfl⟩
  have HQ : Hid (fibI fs (k : Int) = ⟨qa, qb, qc, qd⟩) := Lib.hid (by
    unfold fibI
    rw [List.getD_eq_getElem?_getD, show ((k : Int)).toNat = k by omega, List.getElem?_eq_getElem hks, hq]; rfl)
  have hc5 := fib_c HV.out (k : Int)
  have hlb := lenX_bd HV.out xs
  rw [HQ.out] at hc5
  simp only at hc5
  obtain ⟨nd, tl, la, p, hns, hh, _⟩ := HL.out.see
  have HNS := Lib.hid hns
  have HH := Lib.hid hh
  have hkn : k < n2 := by omega
  obtain ⟨L, hL⟩ : ∃ L, lenX fs xs = L := ⟨_, rfl⟩
  rw [hL] at hlb hh HH
  have HLL := Lib.hid hL
  obtain ⟨m, hm⟩ : ∃ m, xs.length = m := ⟨_, rfl⟩
  have hx' := HX.out
  rw [hm] at hlb hh HH hx'
  have HM := Lib.hid hm
  have hgw := HL.out.lt
  have hrd := HN.out.rd2.q4c hks
  rw [Nat.zero_add, hq] at hrd
  obtain ⟨hg2, r0, r1, r2, r3⟩ := hrd
  simp only at r0 r1 r2 r3
  have HR0 := Lib.hid r0; have HR1 := Lib.hid r1; have HR2 := Lib.hid r2; have HR3 := Lib.hid r3
  have HHX := Lib.hid hh
  clear hq hns hh hL hm r0 r1 r2 r3 hin
  go_enter Try.func236, Try.ntmps236
  go_wp2_with fail
  obtain ⟨W0, hW0⟩ : ∃ W0, w.alloc (Obj.cells #[.slice (some ⟨g1, 0, none⟩) n1 c1, .slice (some ⟨g2, 0, none⟩) n2 c2] 32) = W0 := ⟨_, rfl⟩
  have hb0 : Below w.heap.size w W0 := by rw [← hW0]; exact (Below.refl _ _).alloc (Nat.le_refl _) _
  have hk1 : W0.cell? ⟨w.heap.size, 1, none⟩ = some (.slice (some ⟨g2, 0, none⟩) n2 c2) := by rw [← hW0]; simp [go_sem]
  have hk0 : W0.cell? ⟨w.heap.size, 0, none⟩ = some (.slice (some ⟨g1, 0, none⟩) n1 c1) := by rw [← hW0]; simp [go_sem]
  have hz0 : w.heap.size < W0.heap.size := by rw [← hW0]; simp
  have HB0 := Lib.hid hb0; have HK1 := Lib.hid hk1; have HK0 := Lib.hid hk0; have HZ0 := Lib.hid hz0
  rw [hW0]
  clear hW0 hb0 hk1 hk0 hz0
  refine (CF.out _).mono ?_
  rintro e w1 ⟨rfl, hb1⟩
  have HB1 := Lib.hid (HB0.out.trans (hb1.mono HB0.out.size))
  have hk1 := (hb1.cell (p := ⟨w.heap.size, 1, none⟩) HZ0.out).trans HK1.out
  have hz1 : w.heap.size < w1.heap.size := Nat.lt_of_lt_of_le HZ0.out hb1.size
  have HK11 := Lib.hid hk1
  clear hb1
  go_wp2
  have hgz : g < w1.heap.size := Nat.lt_of_lt_of_le hgw HB1.out.size
  have hg2z : g2 < w1.heap.size := Nat.lt_of_lt_of_le hg2 HB1.out.size
  obtain ⟨f0, f1, f2, f3, f4⟩ := five_cells ((HB1.out.block g hgw).trans HHX.out)
  have hr0 := (HB1.out.cell (p := ⟨g2, k * 4, none⟩) hg2).trans HR0.out
  have hr1 := (HB1.out.cell (p := ⟨g2, k * 4 + 1, none⟩) hg2).trans HR1.out
  have hr2 := (HB1.out.cell (p := ⟨g2, k * 4 + 2, none⟩) hg2).trans HR2.out
  have hr3 := (HB1.out.cell (p := ⟨g2, k * 4 + 3, none⟩) hg2).trans HR3.out
  have CA := Lib.hid (fun W => across_any ⟨qa, qb, qc, qd⟩ nd W)
  obtain ⟨nx, hnx⟩ : ∃ nx, acrI ⟨qa, qb, qc, qd⟩ nd = nx := ⟨_, rfl⟩
  obtain ⟨ok, hok⟩ : ∃ ok, acrB ⟨qa, qb, qc, qd⟩ nd = ok := ⟨_, rfl⟩
  rw [hnx, hok] at CA
  unfold cells4 at CA
  simp only at CA
  have HNX := Lib.hid hnx; have HOK := Lib.hid hok
  clear hnx hok
  obtain ⟨T, f, x0, hx0, hT, HST⟩ := above w1
  haveI : Nonempty T := ⟨x0⟩
  have s0 : ∀ x, (f x).cell? ⟨w.heap.size, 1, none⟩ = some (.slice (some ⟨g2, 0, none⟩) n2 c2) := fun x => ((hT x).cell (p := ⟨_, _, none⟩) hz1).trans hk1
  have s1 : ∀ x, (f x).cell? ⟨g2, k * 4, none⟩ = some (.int .i64 qa) := fun x => ((hT x).cell (p := ⟨_, _, none⟩) hg2z).trans hr0
  have s2 : ∀ x, (f x).cell? ⟨g2, k * 4 + 1, none⟩ = some (.int .i64 qb) := fun x => ((hT x).cell (p := ⟨_, _, none⟩) hg2z).trans hr1
  have s3 : ∀ x, (f x).cell? ⟨g2, k * 4 + 2, none⟩ = some (.int .i64 qc) := fun x => ((hT x).cell (p := ⟨_, _, none⟩) hg2z).trans hr2
  have s4 : ∀ x, (f x).cell? ⟨g2, k * 4 + 3, none⟩ = some (.int .i64 qd) := fun x => ((hT x).cell (p := ⟨_, _, none⟩) hg2z).trans hr3
  have s5 : ∀ x, (f x).cell? ⟨g, 0, none⟩ = some (.int .i64 nd) := fun x => ((hT x).cell (p := ⟨_, _, none⟩) hgz).trans f0
  have HT := Lib.hid hT; have HXX := Lib.hid hx0
  have HF1 := Lib.hid f1; have HF2 := Lib.hid f2
  clear hT hx0 hk1 hr0 hr1 hr2 hr3 f0 f1 f2 f3 f4
  refine wp_region_class f (by kernel_rfl) (by kernel_rfl) x0 HXX.out ?_
  repeat (go_big_quiet_step ((go_at_call 255; exact Calls.inClass HST (CA.out _))))
  refine wpQuiet_nil ?_
  rintro _ ⟨x, rfl⟩
  have HB2 := Lib.hid (HT.out x)
  clear s0 s1 s2 s3 s4 s5
  generalize f x = w2 at HB2 ⊢
  have HB02 := Lib.hid (HB1.out.trans (HB2.out.mono HB1.out.size))
  have HL2 := Lib.hid (HL.out.over HB02.out)
  cases ok
  case false =>
    have HS : Hid (stepO fs ns (k : Int) = none) := Lib.hid (by
      unfold stepO
      rw [HNS.out, HQ.out]
      rw [if_neg (fun h => by have := h.2.1; rw [List.headD_cons, HOK.out] at this; exact absurd this (by decide))])
    go_wp2
    go_ret2
    exact over_no HS.out HB02.out
  case true =>
  have CV := Lib.hid (visits_ (fs := fs) nx w2 HL2.out)
  cases hvis : decide (nx ∈ ns)
  case true =>
    have HS : Hid (stepO fs ns (k : Int) = none) := Lib.hid (by
      have h1 := of_decide_eq_true hvis
      unfold stepO
      rw [HQ.out]
      rw [if_neg (fun h => by have := h.2.2; rw [HNS.out, List.headD_cons, HNX.out, ← HNS.out] at this; exact this h1)])
    rw [hvis] at CV
    clear hvis
    go_wp2_with fail
    refine CV.out.mono ?_
    rintro e w' ⟨rfl, rfl⟩
    go_wp2
    go_ret2
    exact over_no HS.out HB02.out
  case false =>
  have HS : Hid (stepO fs ns (k : Int) = some nx) := Lib.hid (by
    have h1 := of_decide_eq_false hvis
    unfold stepO
    rw [HQ.out, HNS.out, List.headD_cons, HNX.out, HOK.out, ← HNS.out]
    rw [if_pos ⟨⟨by omega, by have := HLN.out; omega⟩, rfl, h1⟩])
  rw [hvis] at CV
  clear hvis
  have s0 := (HB2.out.cell (p := ⟨w.heap.size, 1, none⟩) hz1).trans HK11.out
  have s3 := (HB02.out.cell (p := ⟨g2, k * 4 + 2, none⟩) hg2).trans HR2.out
  have hg5 := five_cells ((HB02.out.block g hgw).trans HHX.out)
  have s5 := hg5.2.1
  have s6 := hg5.2.2.1
  clear hg5
  have e1 : IntKind.i64.wrap (L + qc) = L + qc := IntWalk.i64_in _ (by omega)
  have e2 : IntKind.i64.wrap ((m : Int) + 1) = (m : Int) + 1 := IntWalk.i64_in _ (by omega)
  go_wp2_with fail
  refine CV.out.mono ?_
  rintro e w' ⟨rfl, rfl⟩
  go_wp2_with fail
  have hdr : ∀ t d o u p, ({ heap := w2.heap, tape := t, drawn := d, os := o, output := u } : World).cell? p = w2.cell? p := fun _ _ _ _ _ => rfl
  go_still_tail 20, (by kernel_rfl)
  change wpList _ _ _ _ _ w2.drew
  have HLL2 := Lib.hid (HL.out.over (HB02.out.drew))
  have HB3 := Lib.hid (HB02.out.drew)
  have HZ : Hid (lenX fs ((k : Int) :: xs) = L + qc ∧ (((k : Int) :: xs).length : Int) = (m : Int) + 1) := Lib.hid ⟨by rw [lenX_cons, HQ.out, HLL.out]; show qc + L = _; omega, by rw [List.length_cons, HM.out]; omega⟩
  clear hdr s0 s3 s5 s6 e1 e2
  generalize w2.drew = w3 at HLL2 HB3 ⊢
  go_wp2
  go_ret2
  refine ⟨HB3.out.alloc HB3.out.size _, .inr ⟨nx, w3.heap.size, HS.out, rfl, nx, ns, g, rfl, ?_, HLL2.out.over ((Below.refl _ _).alloc (Nat.le_refl _) _)⟩⟩
  rw [HZ.out.1, HZ.out.2]
  exact heap_alloc_new w3 _
end Go.Proofs.Ytcbjdfgmkiodkaa
