/- Texts of one group, joined: PlanM, PlanS. No condition but those typed. -/
import Derived.Test.YtlgkjidginibdaaGC
import Derived.Test.YtlgkjidginibdaaGB
import Derived.Test.YtlgkjidginibdaaGA
namespace Go.Proofs.Ytlgkjidginibdaa
open Go.ChangeShapes Go.WideShapes Go.ChangeAt Go.RowKit

def bitN (d : LtD) : Nat := (2 ^ d.q1.toNat - 1) * 2 ^ d.q0.toNat
theorem bitsv_nat : ∀ c s : Fin 25, bitsV (s.val : Int) (c.val : Int) = (((2 ^ c.val - 1) * 2 ^ s.val : Nat) : Int) := by decide +kernel
theorem bits_small : ∀ c s : Fin 25, c.val + s.val ≤ 24 → (2 ^ c.val - 1) * 2 ^ s.val < 2 ^ 24 := by decide +kernel
theorem bits_eq {a b : Int} (h : blkP a b) : bitsV a b = (((2 ^ b.toNat - 1) * 2 ^ a.toNat : Nat) : Int) := by
  obtain ⟨h1, h2, h3⟩ := h
  have := bitsv_nat ⟨b.toNat, by omega⟩ ⟨a.toNat, by omega⟩
  simp only at this
  rwa [show ((a.toNat : Nat) : Int) = a by omega, show ((b.toNat : Nat) : Int) = b by omega] at this
theorem bitN_eq {d : LtD} (h : blkP d.q0 d.q1) : bitsV d.q0 d.q1 = (bitN d : Int) := bits_eq h
theorem bitN_lt {d : LtD} (h : blkP d.q0 d.q1) : bitN d < 2 ^ 24 := by
  obtain ⟨h1, h2, h3⟩ := h
  exact bits_small ⟨d.q1.toNat, by omega⟩ ⟨d.q0.toNat, by omega⟩ (by simp only; omega)
def dn (ds : List LtD) (i : Nat) : LtD := ds.getD i ⟨0, 0, [], 0, 0⟩
theorem dn_eq {ds : List LtD} {i : Nat} (h : i < ds.length) : dn ds i = ds[i] := by unfold dn; rw [List.getD_eq_getElem?_getD, List.getElem?_eq_getElem h]; rfl
def lightP (ss : List ByteArray) (fs : List Q4) (d : LtD) : Prop := (1 ≤ d.p0 ∧ d.p0 ≤ 999) ∧ routeB ss fs d.p1 d.zs = true ∧ blkP d.q0 d.q1
def usesB (x y : LtD) : Bool := x.zs.any fun f => decide (f ∈ y.zs)
def colP (x y : LtD) : Prop := usesB x y = true ∧ bitN x &&& bitN y ≠ 0
def stepP (ss : List ByteArray) (fs : List Q4) (ds : List LtD) (i : Nat) : Prop := lightP ss fs (dn ds i) ∧ (0 < i → (dn ds (i - 1)).p0 < (dn ds i).p0)
def apartP (ds : List LtD) : Prop := ∀ i j, j < i → i < ds.length → ¬ colP (dn ds j) (dn ds i)
def planP (ss : List ByteArray) (fs : List Q4) (ds : List LtD) : Prop := netP ss fs ∧ ds.length ≤ 12 ∧ (∀ i, i < ds.length → stepP ss fs ds i) ∧ apartP ds
theorem uses_iff {x y : LtD} : usesB x y = true ↔ ∃ f, f ∈ x.zs ∧ f ∈ y.zs := by unfold usesB; rw [List.any_eq_true]; simp
/-- the slots that the first k lights occupy on a fiber. -/
def usedK (ds : List LtD) : Nat → Int → Nat
  | 0, _ => 0
  | k + 1, x => usedK ds k x ||| (if x ∈ (dn ds k).zs then bitN (dn ds k) else 0)
theorem used_in {ds : List LtD} {k : Nat} {x : Int} (h : x ∈ (dn ds k).zs) : usedK ds (k + 1) x = usedK ds k x ||| bitN (dn ds k) := by rw [usedK, if_pos h]
theorem used_out {ds : List LtD} {k : Nat} {x : Int} (h : ¬ x ∈ (dn ds k).zs) : usedK ds (k + 1) x = usedK ds k x := by rw [usedK, if_neg h, Nat.or_zero]
theorem used_lt {ds : List LtD} {x : Int} : ∀ {k : Nat}, (∀ t, t < k → blkP (dn ds t).q0 (dn ds t).q1) → usedK ds k x < 2 ^ 24
  | 0, _ => by rw [usedK]; decide
  | k + 1, h => by
    have h1 := used_lt (x := x) (k := k) (fun t ht => h t (by omega))
    have h2 := bitN_lt (h k (by omega))
    rw [usedK]
    refine Nat.or_lt_two_pow h1 ?_
    split
    · exact h2
    · decide
theorem used_and {ds : List LtD} {x : Int} {b : Nat} : ∀ {k : Nat}, usedK ds k x &&& b = 0 ↔ ∀ t, t < k → x ∈ (dn ds t).zs → bitN (dn ds t) &&& b = 0
  | 0 => by rw [usedK]; simp
  | k + 1 => by
    have ih := used_and (ds := ds) (x := x) (b := b) (k := k)
    rw [usedK, Nat.and_or_distrib_right, Nat.or_eq_zero_iff, ih]
    constructor
    · intro ⟨h1, h2⟩ t ht hx
      by_cases htk : t < k
      · exact h1 t htk hx
      · obtain rfl : t = k := by omega
        rwa [if_pos hx] at h2
    · intro h
      refine ⟨fun t ht hx => h t (by omega) hx, ?_⟩
      by_cases hx : x ∈ (dn ds k).zs
      · rw [if_pos hx]; exact h k (by omega) hx
      · rw [if_neg hx, Nat.zero_and]
/-- a light's own share on the fibers met so far. -/
def partK (ds : List LtD) (k j : Nat) (x : Int) : Nat := usedK ds k x ||| (if x ∈ (dn ds k).zs.take j then bitN (dn ds k) else 0)
theorem part_zero (ds : List LtD) (k : Nat) (x : Int) : partK ds k 0 x = usedK ds k x := by unfold partK; simp
theorem part_all (ds : List LtD) (k : Nat) (x : Int) : partK ds k (dn ds k).zs.length x = usedK ds (k + 1) x := by unfold partK; rw [usedK, List.take_length]
theorem part_new {ds : List LtD} {k j : Nat} (hj : j < (dn ds k).zs.length) (hn : (dn ds k).zs.Nodup) : partK ds k j ((dn ds k).zs[j]) = usedK ds k ((dn ds k).zs[j]) := by
  unfold partK
  rw [if_neg, Nat.or_zero]
  intro h
  obtain ⟨i, hi, he⟩ := List.mem_iff_getElem.1 h
  rw [List.length_take] at hi
  rw [List.getElem_take] at he
  exact (List.pairwise_iff_getElem.1 hn i j (by omega) hj (by omega)) he
theorem part_same {ds : List LtD} {k j : Nat} (hj : j < (dn ds k).zs.length) (hn : (dn ds k).zs.Nodup) : partK ds k (j + 1) ((dn ds k).zs[j]) = usedK ds k ((dn ds k).zs[j]) ||| bitN (dn ds k) := by
  have hm : (dn ds k).zs[j] ∈ (dn ds k).zs.take (j + 1) := by
    rw [List.take_succ_eq_append_getElem hj]
    exact List.mem_append_right _ (List.mem_singleton.2 rfl)
  have h0 := part_new hj hn
  unfold partK at h0 ⊢
  rw [if_pos hm]
theorem part_other {ds : List LtD} {k j : Nat} (hj : j < (dn ds k).zs.length) {x : Int} (hx : x ≠ (dn ds k).zs[j]) : partK ds k (j + 1) x = partK ds k j x := by
  have hi : x ∈ (dn ds k).zs.take (j + 1) ↔ x ∈ (dn ds k).zs.take j := by
    rw [List.take_succ_eq_append_getElem hj, List.mem_append, List.mem_singleton]
    exact ⟨fun h => h.resolve_right hx, Or.inl⟩
  unfold partK
  by_cases h : x ∈ (dn ds k).zs.take j
  · rw [if_pos h, if_pos (hi.2 h)]
  · rw [if_neg h, if_neg (fun h2 => h (hi.1 h2))]
/-- the fibers of a walk are different. -/
theorem walkR_fresh {fs : List Q4} : ∀ {fl ns vs : List Int} {seen : List Int}, ns ≠ [] → (∀ x ∈ seen, (fibI fs x).a ∈ ns ∧ (fibI fs x).b ∈ ns) → walkR fs fl ns = some vs → fl.Nodup ∧ ∀ x ∈ fl, ¬ x ∈ seen
  | [], _, _, _, _, _, _ => ⟨List.nodup_nil, fun x hx => by simp at hx⟩
  | y :: r, ns, vs, seen, hne, hs, h => by
    cases hst : stepO fs ns y with
    | none => rw [walkR_none hst] at h; exact absurd h (by simp)
    | some nx =>
      rw [walkR_some hst] at h
      have hc : ((0 ≤ y ∧ y < fs.length) ∧ acrB (fibI fs y) (ns.headD 0) = true ∧ ¬ acrI (fibI fs y) (ns.headD 0) ∈ ns) ∧ acrI (fibI fs y) (ns.headD 0) = nx := by
        unfold stepO at hst
        split at hst
        · rename_i hc; injection hst with hst; exact ⟨hc, hst⟩
        · exact absurd hst (by simp)
      obtain ⟨⟨_, ha, hn⟩, hx⟩ := hc
      have hh : ns.headD 0 ∈ ns := by
        cases ns with
        | nil => exact absurd rfl hne
        | cons a l => simp
      have hys : ¬ y ∈ seen := fun hy => by
        obtain ⟨h1, h2⟩ := hs y hy
        apply hn
        unfold acrI
        split
        · exact h2
        · split
          · exact h1
          · rename_i h3 h4
            unfold acrB at ha
            rcases of_decide_eq_true ha with h5 | h5
            · exact absurd h5 h3
            · exact absurd h5 h4
      have hends : (fibI fs y).a ∈ nx :: ns ∧ (fibI fs y).b ∈ nx :: ns := by
        unfold acrB at ha
        unfold acrI at hx
        rcases of_decide_eq_true ha with h5 | h5
        · rw [if_pos h5] at hx
          exact ⟨List.mem_cons_of_mem _ (h5 ▸ hh), by rw [hx]; exact List.mem_cons_self⟩
        · by_cases h6 : ns.headD 0 = (fibI fs y).a
          · rw [if_pos h6] at hx
            exact ⟨List.mem_cons_of_mem _ (h6 ▸ hh), by rw [hx]; exact List.mem_cons_self⟩
          · rw [if_neg h6, if_pos h5] at hx
            exact ⟨by rw [hx]; exact List.mem_cons_self, List.mem_cons_of_mem _ (h5 ▸ hh)⟩
      obtain ⟨h1, h2⟩ := walkR_fresh (seen := y :: seen) (by simp) (fun x hx => by
        rcases List.mem_cons.1 hx with rfl | hx
        · exact hends
        · exact ⟨List.mem_cons_of_mem _ (hs x hx).1, List.mem_cons_of_mem _ (hs x hx).2⟩) h
      refine ⟨List.nodup_cons.2 ⟨fun hy => h2 y hy List.mem_cons_self, h1⟩, fun x hx => ?_⟩
      rcases List.mem_cons.1 hx with rfl | hx
      · exact hys
      · exact fun hxs => h2 x hx (List.mem_cons_of_mem _ hxs)
theorem route_nodup {ss : List ByteArray} {fs : List Q4} {st : Int} {fl : List Int} (h : routeB ss fs st fl = true) : fl.Nodup ∧ ∀ x ∈ fl, 0 ≤ x ∧ x < fs.length := by
  obtain ⟨_, vs, hv⟩ := routeB_yes h
  refine ⟨?_, routeN_mem hv⟩
  unfold routeN at hv
  split at hv
  · exact (walkR_fresh (seen := []) (by simp) (fun x hx => by simp at hx) hv).1
  · exact absurd hv (by simp)
end Go.Proofs.Ytlgkjidginibdaa

namespace Go.Proofs.Ytlgkjidginibdaa
open Go.ChangeShapes Go.WideShapes Go.ChangeAt Go.RowKit

set_option maxRecDepth 100000 in
set_option maxHeartbeats 2000000 in
theorem l4Uses_ (st : Int) (A : Option Addr) (n c : Nat) (xs : List Int) (A' : Option Addr) (n' c' : Nat) (ys : List Int) (w : World) (hn : xs.length = n) (hr : Rd w w.heap.size A (xs.map (Value.int .i64))) (hs : n ≤ 1048576) (hn' : ys.length = n') (hr' : Rd w w.heap.size A' (ys.map (Value.int .i64))) (hs' : n' ≤ 1048576) :
    Calls Try.prog 206 #[.agg #[.int .i64 st, .slice A n c], .slice A' n' c'] w (RetP (.bool (xs.any fun f => decide (f ∈ ys))) w) := by
  have HN := Lib.hid hn; have HR := Lib.hid hr; have HN' := Lib.hid hn'; have HR' := Lib.hid hr'
  obtain ⟨r, hrr⟩ : ∃ r, (xs.any fun f => decide (f ∈ ys)) = r := ⟨_, rfl⟩
  rw [hrr]
  have HRR := Lib.hid hrr
  clear hn hr hn' hr' hrr
  go_enter Try.func206, Try.ntmps206
  go_wp2
  obtain ⟨W0, hW0⟩ : ∃ W0, w.alloc (Obj.cells #[.int .i64 st, .slice A n c] 41) = W0 := ⟨_, rfl⟩
  have hb0 : Below w.heap.size w W0 := by rw [← hW0]; exact (Below.refl _ _).alloc (Nat.le_refl _) _
  have hk1 : W0.cell? ⟨w.heap.size, 1, none⟩ = some (.slice A n c) := by rw [← hW0]; simp [go_sem]
  have hz0 : w.heap.size < W0.heap.size := by rw [← hW0]; simp
  have HB0 := Lib.hid hb0; have HK1 := Lib.hid hk1; have HZB := Lib.hid hz0
  rw [hW0]
  clear hW0 hb0 hk1 hz0
  go_loopw [5] (fun i wr => ∃ k : Nat, k ≤ n ∧ i = .int .i64 k ∧ Hid (((xs.take k).any fun f => decide (f ∈ ys)) = false) ∧ Below W0.heap.size W0 wr) (fun i _ => n - (intOf i).toNat)
  case atStart => exact ⟨0, Nat.zero_le _, rfl, Lib.hid (by simp), Below.refl _ _⟩
  case round =>
    obtain ⟨k, hk, rfl, HA, hb⟩ := hrel
    have HBW := Lib.hid (HB0.out.trans (hb.mono HB0.out.size))
    have HBB := Lib.hid hb
    have k1 := (hb.cell (p := ⟨w.heap.size, 1, none⟩) HZB.out).trans HK1.out
    have hzw : w.heap.size < wr.heap.size := Nat.lt_of_lt_of_le HZB.out hb.size
    by_cases hlt : k < n
    case neg =>
      have HE : Hid (false = r) := Lib.hid (by
        have h1 := HA.out
        rw [List.take_of_length_le (by have := HN.out; omega)] at h1
        rw [← HRR.out, h1])
      clear hb
      go_wp2
      go_ret
      exact ⟨retb HE.out, HBW.out⟩
    case pos =>
    have hkx : k < xs.length := by have := HN.out; omega
    obtain ⟨ad, hA, hbl, hcell⟩ := ints_at HR.out hkx
    subst hA
    rw [← HBW.out.cell (by rw [addBlock]; exact hbl)] at hcell
    obtain ⟨x, hx⟩ : ∃ x, xs[k]'hkx = x := ⟨_, rfl⟩
    rw [hx] at hcell
    have CH := Lib.hid (has_ A' n' c' ys x wr HN'.out (HR'.out.moved HBW.out) (by omega))
    have HSN : Hid (((xs.take (k + 1)).any fun f => decide (f ∈ ys)) = decide (x ∈ ys)) := Lib.hid (by
      rw [List.take_succ_eq_append_getElem hkx, List.any_append, HA.out, hx]; simp)
    cases hin : decide (x ∈ ys)
    case true =>
      have HE : Hid (true = r) := Lib.hid (by
        rw [← HRR.out]
        refine (List.any_eq_true.2 ⟨x, ?_, hin⟩).symm
        rw [← hx]; exact List.getElem_mem hkx)
      rw [hin] at CH
      clear hin hb hx
      go_wp2_with fail
      refine CH.out.mono ?_
      rintro e w' ⟨rfl, rfl⟩
      go_wp2
      go_ret
      exact ⟨retb HE.out, HBW.out⟩
    case false =>
      have HS : Hid (((xs.take (k + 1)).any fun f => decide (f ∈ ys)) = false) := Lib.hid (HSN.out.trans hin)
      rw [hin] at CH
      clear hin hb hx
      go_wp2_with fail
      refine CH.out.mono ?_
      rintro e w' ⟨rfl, rfl⟩
      go_wp2
      go_roundw
      case rel => exact ⟨k + 1, by omega, by go_num, HS, HBB.out⟩
      case measure => simp [intOf]; omega
set_option maxRecDepth 100000 in
set_option maxHeartbeats 4000000 in
theorem l9Light_ {g1 g2 n1 n2 c1 c2 : Nat} {ss : List ByteArray} {fs : List Q4} {w : World} (h : NetAt g1 g2 n1 n2 c1 c2 ss fs w) (x : Lt) (hx : LtAt w x) :
    Calls Try.prog 175 #[.agg #[.slice (some ⟨g1, 0, none⟩) n1 c1, .slice (some ⟨g2, 0, none⟩) n2 c2], .agg #[.int .i64 x.p0, .int .i64 x.p1, .slice x.A x.n x.c, .int .i64 x.q0, .int .i64 x.q1]] w (RetP (.bool (pb (lightP ss fs x.d))) w) := by
  obtain ⟨p0, p1, A, n, c, zs, q0, q1⟩ := x
  obtain ⟨hn, hs, hr⟩ := hx
  simp only at hn hs hr ⊢
  have HNT := Lib.hid h; have HN := Lib.hid hn; have HR := Lib.hid hr
  obtain ⟨r, hrr⟩ : ∃ r, pb (lightP ss fs (⟨p0, p1, A, n, c, zs, q0, q1⟩ : Lt).d) = r := ⟨_, rfl⟩
  have HP : Hid (lightP ss fs (⟨p0, p1, A, n, c, zs, q0, q1⟩ : Lt).d ↔ (1 ≤ p0 ∧ p0 ≤ 999) ∧ routeB ss fs p1 zs = true ∧ blkP q0 q1) := Lib.hid Iff.rfl
  rw [hrr]
  have HRR := Lib.hid hrr
  clear h hn hr hrr
  have CI := Lib.hid (fun W => in_ p0 1 999 W)
  have CB := Lib.hid (fun W => specBlk q0 q1 W)
  obtain ⟨b1, hb1⟩ : ∃ b, inB p0 1 999 = b := ⟨_, rfl⟩
  obtain ⟨b3, hb3⟩ : ∃ b, pb (blkP q0 q1) = b := ⟨_, rfl⟩
  rw [hb1] at CI; rw [hb3] at CB
  have H1 := Lib.hid hb1; have H3 := Lib.hid hb3
  clear hb1 hb3
  go_enter Try.func175, Try.ntmps175
  go_wp2_with fail
  obtain ⟨W0, hW0⟩ : ∃ W0, (w.alloc (Obj.cells #[.slice (some ⟨g1, 0, none⟩) n1 c1, .slice (some ⟨g2, 0, none⟩) n2 c2] 39)).alloc (Obj.cells #[.int .i64 p0, .int .i64 p1, .slice A n c, .int .i64 q0, .int .i64 q1] 155) = W0 := ⟨_, rfl⟩
  have hb0 : Below w.heap.size w W0 := by rw [← hW0]; exact ((Below.refl _ _).alloc (Nat.le_refl _) _).alloc (by simp) _
  have k0 : W0.cell? ⟨w.heap.size, 0, none⟩ = some (.slice (some ⟨g1, 0, none⟩) n1 c1) := by rw [← hW0]; simp [go_sem]
  have k1 : W0.cell? ⟨w.heap.size, 1, none⟩ = some (.slice (some ⟨g2, 0, none⟩) n2 c2) := by rw [← hW0]; simp [go_sem]
  have l1 : W0.cell? ⟨w.heap.size + 1, 1, none⟩ = some (.int .i64 p1) := by rw [← hW0]; simp [go_sem]
  have l2 : W0.cell? ⟨w.heap.size + 1, 2, none⟩ = some (.slice A n c) := by rw [← hW0]; simp [go_sem]
  have l3 : W0.cell? ⟨w.heap.size + 1, 3, none⟩ = some (.int .i64 q0) := by rw [← hW0]; simp [go_sem]
  have l4 : W0.cell? ⟨w.heap.size + 1, 4, none⟩ = some (.int .i64 q1) := by rw [← hW0]; simp [go_sem]
  have hz0 : w.heap.size + 1 < W0.heap.size := by rw [← hW0]; simp
  have HB0 := Lib.hid hb0
  rw [hW0]
  clear hW0 hb0
  refine (CI.out _).mono ?_
  rintro e w1 ⟨rfl, rfl⟩
  cases b1
  case false =>
    have HE : Hid (false = r) := Lib.hid (by rw [← HRR.out]; exact (pb_false (fun h => by have h2 := (HP.out.1 h).1; rw [inB_mk h2.1 h2.2] at H1; exact absurd H1.out (by decide))).symm)
    go_wp2
    go_ret
    exact ⟨retb HE.out, HB0.out⟩
  case true =>
  have CG := Lib.hid (l4Good_ (c := c) (HNT.out.moved HB0.out) p1 HN.out (HR.out.moved HB0.out) hs)
  obtain ⟨b2, hb2⟩ : ∃ b, routeB ss fs p1 zs = b := ⟨_, rfl⟩
  rw [hb2] at CG
  have H2 := Lib.hid hb2
  clear hb2
  go_wp2_with fail
  refine CG.out.mono ?_
  rintro e w2 ⟨rfl, hb2⟩
  have HB2 := Lib.hid (HB0.out.trans (hb2.mono HB0.out.size))
  have m3 := (hb2.cell (p := ⟨w.heap.size + 1, 3, none⟩) hz0).trans l3
  have m4 := (hb2.cell (p := ⟨w.heap.size + 1, 4, none⟩) hz0).trans l4
  clear k0 k1 l1 l2 l3 l4 hz0 hb2
  cases b2
  case false =>
    have HE : Hid (false = r) := Lib.hid (by rw [← HRR.out]; exact (pb_false (fun h => by have h2 := (HP.out.1 h).2.1; rw [H2.out] at h2; exact absurd h2 (by decide))).symm)
    go_wp2
    go_ret
    exact ⟨retb HE.out, HB2.out⟩
  case true =>
  go_wp2_with fail
  refine (CB.out _).mono ?_
  rintro e w3 ⟨rfl, hb3⟩
  have HB3 := Lib.hid (HB2.out.trans (hb3.mono HB2.out.size))
  have HE : Hid (b3 = r) := Lib.hid (by
    rw [← HRR.out, ← H3.out]
    by_cases hp : blkP q0 q1
    · rw [pb_true hp, pb_true (HP.out.2 ⟨inB_true H1.out, H2.out, hp⟩)]
    · rw [pb_false hp, pb_false (fun h => hp (HP.out.1 h).2.2)])
  clear hb3
  go_wp2
  go_ret
  exact ⟨retb HE.out, HB3.out⟩
theorem and_i64n (a b : Nat) (ha : a < 2 ^ 24) (hb : b < 2 ^ 24) : bits .and .i64 (a : Int) (b : Int) = ((a &&& b : Nat) : Int) := by
  have wr : ∀ n : Int, 0 ≤ n → n < 2 ^ 62 → IntKind.i64.wrap n = n := by intro n h0 h1; rw [IntKind.wrap_i64]; omega
  exact (bits_nat .i64 62 (by decide) wr a b (by omega) (by omega)).1
noncomputable def colB (x y : LtD) : Bool := pb (colP x y)
set_option maxRecDepth 100000 in
set_option maxHeartbeats 4000000 in
theorem l9Collide_ (x y : Lt) (w : World) (hx : LtAt w x) (hy : LtAt w y) (hbx : blkP x.q0 x.q1) (hby : blkP y.q0 y.q1) :
    Calls Try.prog 176 #[.agg #[.int .i64 x.p0, .int .i64 x.p1, .slice x.A x.n x.c, .int .i64 x.q0, .int .i64 x.q1], .agg #[.int .i64 y.p0, .int .i64 y.p1, .slice y.A y.n y.c, .int .i64 y.q0, .int .i64 y.q1]] w (RetP (.bool (colB x.d y.d)) w) := by
  obtain ⟨r, hrr⟩ : ∃ r, colB x.d y.d = r := ⟨_, rfl⟩
  rw [hrr]
  have HRR := Lib.hid hrr
  have hex := bitN_eq (d := x.d) hbx; have hey := bitN_eq (d := y.d) hby
  have hlx := bitN_lt (d := x.d) hbx; have hly := bitN_lt (d := y.d) hby
  have CX := Lib.hid (fun W => specBits x.q0 x.q1 W hbx)
  have CY := Lib.hid (fun W => specBits y.q0 y.q1 W hby)
  have hex2 : bitsV x.q0 x.q1 = (bitN x.d : Int) := hex
  have hey2 : bitsV y.q0 y.q1 = (bitN y.d : Int) := hey
  rw [hex2] at CX; rw [hey2] at CY
  obtain ⟨bx, hbxe⟩ : ∃ b, bitN x.d = b := ⟨_, rfl⟩
  obtain ⟨by_, hbye⟩ : ∃ b, bitN y.d = b := ⟨_, rfl⟩
  obtain ⟨u, hu⟩ : ∃ u, usesB x.d y.d = u := ⟨_, rfl⟩
  rw [hbxe] at CX hlx; rw [hbye] at CY hly
  have HC : Hid (colP x.d y.d ↔ u = true ∧ bx &&& by_ ≠ 0) := Lib.hid (by unfold colP; rw [hu, hbxe, hbye])
  have HU : Hid ((x.zs.any fun f => decide (f ∈ y.zs)) = u) := Lib.hid hu
  have hand := and_i64n bx by_ hlx hly
  clear hrr hex hey hex2 hey2 hbxe hbye hu hbx hby
  obtain ⟨p0, p1, A, n, c, zs, q0, q1⟩ := x
  obtain ⟨p0', p1', A', n', c', zs', q0', q1'⟩ := y
  obtain ⟨hn, hs, hr⟩ := hx
  obtain ⟨hn', hs', hr'⟩ := hy
  simp only at hn hs hr hn' hs' hr' CX CY HU ⊢
  have HN := Lib.hid hn; have HR := Lib.hid hr; have HN' := Lib.hid hn'; have HR' := Lib.hid hr'
  clear hn hr hn' hr'
  have HAND := Lib.hid hand
  obtain ⟨v, hv⟩ : ∃ v, bx &&& by_ = v := ⟨_, rfl⟩
  rw [hv] at HC HAND
  have hbits := HAND.out
  have HHV := Lib.hid hv
  clear hand hv hlx hly
  go_enter Try.func176, Try.ntmps176
  go_wp2_with fail
  obtain ⟨W0, hW0⟩ : ∃ W0, (w.alloc (Obj.cells #[.int .i64 p0, .int .i64 p1, .slice A n c, .int .i64 q0, .int .i64 q1] 155)).alloc (Obj.cells #[.int .i64 p0', .int .i64 p1', .slice A' n' c', .int .i64 q0', .int .i64 q1'] 155) = W0 := ⟨_, rfl⟩
  have hb0 : Below w.heap.size w W0 := by rw [← hW0]; exact ((Below.refl _ _).alloc (Nat.le_refl _) _).alloc (by simp) _
  have k1 : W0.cell? ⟨w.heap.size, 1, none⟩ = some (.int .i64 p1) := by rw [← hW0]; simp [go_sem]
  have k2 : W0.cell? ⟨w.heap.size, 2, none⟩ = some (.slice A n c) := by rw [← hW0]; simp [go_sem]
  have k3 : W0.cell? ⟨w.heap.size, 3, none⟩ = some (.int .i64 q0) := by rw [← hW0]; simp [go_sem]
  have k4 : W0.cell? ⟨w.heap.size, 4, none⟩ = some (.int .i64 q1) := by rw [← hW0]; simp [go_sem]
  have l2 : W0.cell? ⟨w.heap.size + 1, 2, none⟩ = some (.slice A' n' c') := by rw [← hW0]; simp [go_sem]
  have l3 : W0.cell? ⟨w.heap.size + 1, 3, none⟩ = some (.int .i64 q0') := by rw [← hW0]; simp [go_sem]
  have l4 : W0.cell? ⟨w.heap.size + 1, 4, none⟩ = some (.int .i64 q1') := by rw [← hW0]; simp [go_sem]
  have hz0 : w.heap.size + 1 < W0.heap.size := by rw [← hW0]; simp
  have hza : w.heap.size < W0.heap.size := by omega
  have HB0 := Lib.hid hb0
  rw [hW0]
  clear hW0 hb0
  obtain ⟨T, f, x0, hx0, hTT, HST⟩ := above W0
  haveI : Nonempty T := ⟨x0⟩
  have hbx : ∀ x, Below w.heap.size w (f x) := fun x => HB0.out.trans ((hTT x).mono HB0.out.size)
  have s1 : ∀ x, (f x).cell? ⟨w.heap.size, 1, none⟩ = some (.int .i64 p1) := fun x => ((hTT x).cell (p := ⟨_, _, none⟩) hza).trans k1
  have s2 : ∀ x, (f x).cell? ⟨w.heap.size, 2, none⟩ = some (.slice A n c) := fun x => ((hTT x).cell (p := ⟨_, _, none⟩) hza).trans k2
  have s3 : ∀ x, (f x).cell? ⟨w.heap.size, 3, none⟩ = some (.int .i64 q0) := fun x => ((hTT x).cell (p := ⟨_, _, none⟩) hza).trans k3
  have s4 : ∀ x, (f x).cell? ⟨w.heap.size, 4, none⟩ = some (.int .i64 q1) := fun x => ((hTT x).cell (p := ⟨_, _, none⟩) hza).trans k4
  have t2 : ∀ x, (f x).cell? ⟨w.heap.size + 1, 2, none⟩ = some (.slice A' n' c') := fun x => ((hTT x).cell (p := ⟨_, _, none⟩) hz0).trans l2
  have t3 : ∀ x, (f x).cell? ⟨w.heap.size + 1, 3, none⟩ = some (.int .i64 q0') := fun x => ((hTT x).cell (p := ⟨_, _, none⟩) hz0).trans l3
  have t4 : ∀ x, (f x).cell? ⟨w.heap.size + 1, 4, none⟩ = some (.int .i64 q1') := fun x => ((hTT x).cell (p := ⟨_, _, none⟩) hz0).trans l4
  have CU : Hid (∀ x, Calls Try.prog 206 #[.agg #[.int .i64 p1, .slice A n c], .slice A' n' c'] (f x) (RetP (.bool u) (f x))) := Lib.hid fun x => by
    have := l4Uses_ p1 A n c zs A' n' c' zs' (f x) HN.out (HR.out.moved (hbx x)) hs HN'.out (HR'.out.moved (hbx x)) hs'
    rw [HU.out] at this
    exact this
  have HBX := Lib.hid hbx
  have HXX := Lib.hid hx0
  clear hbx hx0 hTT k1 k2 k3 k4 l2 l3 l4 hz0 hza
  cases u
  case false =>
    have HE : Hid (false = r) := Lib.hid (by rw [← HRR.out]; exact (pb_false (fun h => absurd (HC.out.1 h).1 (by decide))).symm)
    refine wp_region_class f (by kernel_rfl) (by kernel_rfl) x0 HXX.out ?_
    repeat (go_big_quiet_step (first | (go_at_call 206; exact Calls.inClass HST (CU.out _)) | (go_at_call_of 207 (Value.agg #[.int .i64 q0, .int .i64 q1]); exact Calls.inClass HST (CX.out _)) | (go_at_call 207; exact Calls.inClass HST (CY.out _))))
    refine wpQuiet_nil ?_
    rintro _ ⟨x, rfl⟩
    have HB2 := Lib.hid (HBX.out x)
    clear s1 s2 s3 s4 t2 t3 t4
    go_wp2
    go_ret
    exact ⟨retb HE.out, HB2.out⟩
  case true =>
  have hv0 : (0 : Int) ≤ (v : Int) := by omega
  by_cases hv : v = 0
  · have HE : Hid (false = r) := Lib.hid (by rw [← HRR.out]; exact (pb_false (fun h => (HC.out.1 h).2 hv)).symm)
    subst hv
    refine wp_region_class f (by kernel_rfl) (by kernel_rfl) x0 HXX.out ?_
    repeat (go_big_quiet_step (first | (go_at_call 206; exact Calls.inClass HST (CU.out _)) | (go_at_call_of 207 (Value.agg #[.int .i64 q0, .int .i64 q1]); exact Calls.inClass HST (CX.out _)) | (go_at_call 207; exact Calls.inClass HST (CY.out _))))
    refine wpQuiet_nil ?_
    rintro _ ⟨x, rfl⟩
    have HB2 := Lib.hid (HBX.out x)
    clear s1 s2 s3 s4 t2 t3 t4
    go_wp2
    go_ret
    exact ⟨retb HE.out, HB2.out⟩
  · have HE : Hid (true = r) := Lib.hid (by rw [← HRR.out]; exact (pb_true (HC.out.2 ⟨rfl, hv⟩)).symm)
    have hvi : (v : Int) ≠ 0 := by omega
    have hvb : ((v : Int) != 0) = true := by simpa using hvi
    have hvc : ((v : Int) == 0) = false := by simpa using hvi
    clear hv hvi
    refine wp_region_class f (by kernel_rfl) (by kernel_rfl) x0 HXX.out ?_
    repeat (go_big_quiet_step (first | (go_at_call 206; exact Calls.inClass HST (CU.out _)) | (go_at_call_of 207 (Value.agg #[.int .i64 q0, .int .i64 q1]); exact Calls.inClass HST (CX.out _)) | (go_at_call 207; exact Calls.inClass HST (CY.out _))))
    refine wpQuiet_nil ?_
    rintro _ ⟨x, rfl⟩
    have HB2 := Lib.hid (HBX.out x)
    clear s1 s2 s3 s4 t2 t3 t4
    go_wp2
    go_ret
    exact ⟨retb HE.out, HB2.out⟩
end Go.Proofs.Ytlgkjidginibdaa
