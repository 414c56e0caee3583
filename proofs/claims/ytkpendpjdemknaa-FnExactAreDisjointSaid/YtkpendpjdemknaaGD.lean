/- Texts of one group, joined: PlanM, PlanS, PlanV, PlanI, PlanJ, LNum. No condition but those typed. -/
import Derived.Test.YtkpendpjdemknaaGC
import Derived.Test.YtkpendpjdemknaaGB
import Derived.Test.YtkpendpjdemknaaGA
import Derived.Deep.DeepCutAuto
import Derived.Deep.DeepMust
import Derived.Maps.OwnOps
import Derived.Maps.Views
namespace Go.Proofs.Ytkpendpjdemknaa
open Go.ChangeShapes Go.WideShapes Go.ChangeAt Go.RowKit

def bitN (d : LtD) : Nat := (2 ^ d.q1.toNat - 1) * 2 ^ d.q0.toNat
theorem bitsv_nat : ∀ c s : Fin 25, bitsV (s.val : Int) (c.val : Int) = (((2 ^ c.val - 1) * 2 ^ s.val : Nat) : Int) := by decide +kernel
theorem bits_small : ∀ c s : Fin 25, c.val + s.val ≤ 24 → (2 ^ c.val - 1) * 2 ^ s.val < 2 ^ 24 := by decide +kernel
theorem bits_eq {a b : Int} (h : blkP a b) : bitsV a b = (((2 ^ b.toNat - 1) * 2 ^ a.toNat : Nat) : Int) := by
  obtain ⟨h1, h2, h3⟩ := h
  have := bitsv_nat ⟨b.toNat, by omega⟩ ⟨a.toNat, by omega⟩
  simp only at this
  rwa [show ((a.toNat : Nat) : Int) = a by omega, show ((b.toNat : Nat) : Int) = b by omega] at this
theorem bitN_eq {d : LtD} (h : blkP d.q0 d.q1) : bitsV d.q0 d.q1 = (bitN d : Int) := bits_eq h
theorem bitN_lt {d : LtD} (h : blkP d.q0 d.q1) : bitN d < 2 ^ 24 := by
  obtain ⟨h1, h2, h3⟩ := h
  exact bits_small ⟨d.q1.toNat, by omega⟩ ⟨d.q0.toNat, by omega⟩ (by simp only; omega)
def dn (ds : List LtD) (i : Nat) : LtD := ds.getD i ⟨0, 0, [], 0, 0⟩
theorem dn_eq {ds : List LtD} {i : Nat} (h : i < ds.length) : dn ds i = ds[i] := by unfold dn; rw [List.getD_eq_getElem?_getD, List.getElem?_eq_getElem h]; rfl
def lightP (ss : List ByteArray) (fs : List Q4) (d : LtD) : Prop := (1 ≤ d.p0 ∧ d.p0 ≤ 999) ∧ routeB ss fs d.p1 d.zs = true ∧ blkP d.q0 d.q1
def usesB (x y : LtD) : Bool := x.zs.any fun f => decide (f ∈ y.zs)
def colP (x y : LtD) : Prop := usesB x y = true ∧ bitN x &&& bitN y ≠ 0
def stepP (ss : List ByteArray) (fs : List Q4) (ds : List LtD) (i : Nat) : Prop := lightP ss fs (dn ds i) ∧ (0 < i → (dn ds (i - 1)).p0 < (dn ds i).p0)
def apartP (ds : List LtD) : Prop := ∀ i j, j < i → i < ds.length → ¬ colP (dn ds j) (dn ds i)
def planP (ss : List ByteArray) (fs : List Q4) (ds : List LtD) : Prop := netP ss fs ∧ ds.length ≤ 12 ∧ (∀ i, i < ds.length → stepP ss fs ds i) ∧ apartP ds
theorem uses_iff {x y : LtD} : usesB x y = true ↔ ∃ f, f ∈ x.zs ∧ f ∈ y.zs := by unfold usesB; rw [List.any_eq_true]; simp
/-- the slots that the first k lights occupy on a fiber. -/
def usedK (ds : List LtD) : Nat → Int → Nat
  | 0, _ => 0
  | k + 1, x => usedK ds k x ||| (if x ∈ (dn ds k).zs then bitN (dn ds k) else 0)
theorem used_in {ds : List LtD} {k : Nat} {x : Int} (h : x ∈ (dn ds k).zs) : usedK ds (k + 1) x = usedK ds k x ||| bitN (dn ds k) := by rw [usedK, if_pos h]
theorem used_out {ds : List LtD} {k : Nat} {x : Int} (h : ¬ x ∈ (dn ds k).zs) : usedK ds (k + 1) x = usedK ds k x := by rw [usedK, if_neg h, Nat.or_zero]
theorem used_lt {ds : List LtD} {x : Int} : ∀ {k : Nat}, (∀ t, t < k → blkP (dn ds t).q0 (dn ds t).q1) → usedK ds k x < 2 ^ 24
  | 0, _ => by rw [usedK]; decide
  | k + 1, h => by
    have h1 := used_lt (x := x) (k := k) (fun t ht => h t (by omega))
    have h2 := bitN_lt (h k (by omega))
    rw [usedK]
    refine Nat.or_lt_two_pow h1 ?_
    split
    · exact h2
    · decide
theorem used_and {ds : List LtD} {x : Int} {b : Nat} : ∀ {k : Nat}, usedK ds k x &&& b = 0 ↔ ∀ t, t < k → x ∈ (dn ds t).zs → bitN (dn ds t) &&& b = 0
  | 0 => by rw [usedK]; simp
  | k + 1 => by
    have ih := used_and (ds := ds) (x := x) (b := b) (k := k)
    rw [usedK, Nat.and_or_distrib_right, Nat.or_eq_zero_iff, ih]
    constructor
    · intro ⟨h1, h2⟩ t ht hx
      by_cases htk : t < k
      · exact h1 t htk hx
      · obtain rfl : t = k := by omega
        rwa [if_pos hx] at h2
    · intro h
      refine ⟨fun t ht hx => h t (by omega) hx, ?_⟩
      by_cases hx : x ∈ (dn ds k).zs
      · rw [if_pos hx]; exact h k (by omega) hx
      · rw [if_neg hx, Nat.zero_and]
/-- a light's own share on the fibers met so far. -/
def partK (ds : List LtD) (k j : Nat) (x : Int) : Nat := usedK ds k x ||| (if x ∈ (dn ds k).zs.take j then bitN (dn ds k) else 0)
theorem part_zero (ds : List LtD) (k : Nat) (x : Int) : partK ds k 0 x = usedK ds k x := by unfold partK; simp
theorem part_all (ds : List LtD) (k : Nat) (x : Int) : partK ds k (dn ds k).zs.length x = usedK ds (k + 1) x := by unfold partK; rw [usedK, List.take_length]
theorem part_new {ds : List LtD} {k j : Nat} (hj : j < (dn ds k).zs.length) (hn : (dn ds k).zs.Nodup) : partK ds k j ((dn ds k).zs[j]) = usedK ds k ((dn ds k).zs[j]) := by
  unfold partK
  rw [if_neg, Nat.or_zero]
  intro h
  obtain ⟨i, hi, he⟩ := List.mem_iff_getElem.1 h
  rw [List.length_take] at hi
  rw [List.getElem_take] at he
  exact (List.pairwise_iff_getElem.1 hn i j (by omega) hj (by omega)) he
theorem part_same {ds : List LtD} {k j : Nat} (hj : j < (dn ds k).zs.length) (hn : (dn ds k).zs.Nodup) : partK ds k (j + 1) ((dn ds k).zs[j]) = usedK ds k ((dn ds k).zs[j]) ||| bitN (dn ds k) := by
  have hm : (dn ds k).zs[j] ∈ (dn ds k).zs.take (j + 1) := by
    rw [List.take_succ_eq_append_getElem hj]
    exact List.mem_append_right _ (List.mem_singleton.2 rfl)
  have h0 := part_new hj hn
  unfold partK at h0 ⊢
  rw [if_pos hm]
theorem part_other {ds : List LtD} {k j : Nat} (hj : j < (dn ds k).zs.length) {x : Int} (hx : x ≠ (dn ds k).zs[j]) : partK ds k (j + 1) x = partK ds k j x := by
  have hi : x ∈ (dn ds k).zs.take (j + 1) ↔ x ∈ (dn ds k).zs.take j := by
    rw [List.take_succ_eq_append_getElem hj, List.mem_append, List.mem_singleton]
    exact ⟨fun h => h.resolve_right hx, Or.inl⟩
  unfold partK
  by_cases h : x ∈ (dn ds k).zs.take j
  · rw [if_pos h, if_pos (hi.2 h)]
  · rw [if_neg h, if_neg (fun h2 => h (hi.1 h2))]
/-- the fibers of a walk are different. -/
theorem walkR_fresh {fs : List Q4} : ∀ {fl ns vs : List Int} {seen : List Int}, ns ≠ [] → (∀ x ∈ seen, (fibI fs x).a ∈ ns ∧ (fibI fs x).b ∈ ns) → walkR fs fl ns = some vs → fl.Nodup ∧ ∀ x ∈ fl, ¬ x ∈ seen
  | [], _, _, _, _, _, _ => ⟨List.nodup_nil, fun x hx => by simp at hx⟩
  | y :: r, ns, vs, seen, hne, hs, h => by
    cases hst : stepO fs ns y with
    | none => rw [walkR_none hst] at h; exact absurd h (by simp)
    | some nx =>
      rw [walkR_some hst] at h
      have hc : ((0 ≤ y ∧ y < fs.length) ∧ acrB (fibI fs y) (ns.headD 0) = true ∧ ¬ acrI (fibI fs y) (ns.headD 0) ∈ ns) ∧ acrI (fibI fs y) (ns.headD 0) = nx := by
        unfold stepO at hst
        split at hst
        · rename_i hc; injection hst with hst; exact ⟨hc, hst⟩
        · exact absurd hst (by simp)
      obtain ⟨⟨_, ha, hn⟩, hx⟩ := hc
      have hh : ns.headD 0 ∈ ns := by
        cases ns with
        | nil => exact absurd rfl hne
        | cons a l => simp
      have hys : ¬ y ∈ seen := fun hy => by
        obtain ⟨h1, h2⟩ := hs y hy
        apply hn
        unfold acrI
        split
        · exact h2
        · split
          · exact h1
          · rename_i h3 h4
            unfold acrB at ha
            rcases of_decide_eq_true ha with h5 | h5
            · exact absurd h5 h3
            · exact absurd h5 h4
      have hends : (fibI fs y).a ∈ nx :: ns ∧ (fibI fs y).b ∈ nx :: ns := by
        unfold acrB at ha
        unfold acrI at hx
        rcases of_decide_eq_true ha with h5 | h5
        · rw [if_pos h5] at hx
          exact ⟨List.mem_cons_of_mem _ (h5 ▸ hh), by rw [hx]; exact List.mem_cons_self⟩
        · by_cases h6 : ns.headD 0 = (fibI fs y).a
          · rw [if_pos h6] at hx
            exact ⟨List.mem_cons_of_mem _ (h6 ▸ hh), by rw [hx]; exact List.mem_cons_self⟩
          · rw [if_neg h6, if_pos h5] at hx
            exact ⟨by rw [hx]; exact List.mem_cons_self, List.mem_cons_of_mem _ (h5 ▸ hh)⟩
      obtain ⟨h1, h2⟩ := walkR_fresh (seen := y :: seen) (by simp) (fun x hx => by
        rcases List.mem_cons.1 hx with rfl | hx
        · exact hends
        · exact ⟨List.mem_cons_of_mem _ (hs x hx).1, List.mem_cons_of_mem _ (hs x hx).2⟩) h
      refine ⟨List.nodup_cons.2 ⟨fun hy => h2 y hy List.mem_cons_self, h1⟩, fun x hx => ?_⟩
      rcases List.mem_cons.1 hx with rfl | hx
      · exact hys
      · exact fun hxs => h2 x hx (List.mem_cons_of_mem _ hxs)
theorem route_nodup {ss : List ByteArray} {fs : List Q4} {st : Int} {fl : List Int} (h : routeB ss fs st fl = true) : fl.Nodup ∧ ∀ x ∈ fl, 0 ≤ x ∧ x < fs.length := by
  obtain ⟨_, vs, hv⟩ := routeB_yes h
  refine ⟨?_, routeN_mem hv⟩
  unfold routeN at hv
  split at hv
  · exact (walkR_fresh (seen := []) (by simp) (fun x hx => by simp at hx) hv).1
  · exact absurd hv (by simp)
end Go.Proofs.Ytkpendpjdemknaa

namespace Go.Proofs.Ytkpendpjdemknaa
open Go.ChangeShapes Go.WideShapes Go.ChangeAt Go.RowKit

set_option maxRecDepth 100000 in
set_option maxHeartbeats 2000000 in
theorem l4Uses_ (st : Int) (A : Option Addr) (n c : Nat) (xs : List Int) (A' : Option Addr) (n' c' : Nat) (ys : List Int) (w : World) (hn : xs.length = n) (hr : Rd w w.heap.size A (xs.map (Value.int .i64))) (hs : n ≤ 1048576) (hn' : ys.length = n') (hr' : Rd w w.heap.size A' (ys.map (Value.int .i64))) (hs' : n' ≤ 1048576) :
    Calls Try.prog 157 #[.agg #[.int .i64 st, .slice A n c], .slice A' n' c'] w (RetP (.bool (xs.any fun f => decide (f ∈ ys))) w) := by
  have HN := Lib.hid hn; have HR := Lib.hid hr; have HN' := Lib.hid hn'; have HR' := Lib.hid hr'
  obtain ⟨r, hrr⟩ : ∃ r, (xs.any fun f => decide (f ∈ ys)) = r := ⟨_, rfl⟩
  rw [hrr]
  have HRR := Lib.hid hrr
  clear hn hr hn' hr' hrr
  go_enter Try.func157, Try.ntmps157
  go_wp2
  obtain ⟨W0, hW0⟩ : ∃ W0, w.alloc (Obj.cells #[.int .i64 st, .slice A n c] 65) = W0 := ⟨_, rfl⟩
  have hb0 : Below w.heap.size w W0 := by rw [← hW0]; exact (Below.refl _ _).alloc (Nat.le_refl _) _
  have hk1 : W0.cell? ⟨w.heap.size, 1, none⟩ = some (.slice A n c) := by rw [← hW0]; simp [go_sem]
  have hz0 : w.heap.size < W0.heap.size := by rw [← hW0]; simp
  have HB0 := Lib.hid hb0; have HK1 := Lib.hid hk1; have HZB := Lib.hid hz0
  rw [hW0]
  clear hW0 hb0 hk1 hz0
  go_loopw [5] (fun i wr => ∃ k : Nat, k ≤ n ∧ i = .int .i64 k ∧ Hid (((xs.take k).any fun f => decide (f ∈ ys)) = false) ∧ Below W0.heap.size W0 wr) (fun i _ => n - (intOf i).toNat)
  case atStart => exact ⟨0, Nat.zero_le _, rfl, Lib.hid (by simp), Below.refl _ _⟩
  case round =>
    obtain ⟨k, hk, rfl, HA, hb⟩ := hrel
    have HBW := Lib.hid (HB0.out.trans (hb.mono HB0.out.size))
    have HBB := Lib.hid hb
    have k1 := (hb.cell (p := ⟨w.heap.size, 1, none⟩) HZB.out).trans HK1.out
    have hzw : w.heap.size < wr.heap.size := Nat.lt_of_lt_of_le HZB.out hb.size
    by_cases hlt : k < n
    case neg =>
      have HE : Hid (false = r) := Lib.hid (by
        have h1 := HA.out
        rw [List.take_of_length_le (by have := HN.out; omega)] at h1
        rw [← HRR.out, h1])
      clear hb
      go_wp2
      go_ret
      exact ⟨retb HE.out, HBW.out⟩
    case pos =>
    have hkx : k < xs.length := by have := HN.out; omega
    obtain ⟨ad, hA, hbl, hcell⟩ := ints_at HR.out hkx
    subst hA
    rw [← HBW.out.cell (by rw [addBlock]; exact hbl)] at hcell
    obtain ⟨x, hx⟩ : ∃ x, xs[k]'hkx = x := ⟨_, rfl⟩
    rw [hx] at hcell
    have CH := Lib.hid (has_ A' n' c' ys x wr HN'.out (HR'.out.moved HBW.out) (by omega))
    have HSN : Hid (((xs.take (k + 1)).any fun f => decide (f ∈ ys)) = decide (x ∈ ys)) := Lib.hid (by
      rw [List.take_succ_eq_append_getElem hkx, List.any_append, HA.out, hx]; simp)
    cases hin : decide (x ∈ ys)
    case true =>
      have HE : Hid (true = r) := Lib.hid (by
        rw [← HRR.out]
        refine (List.any_eq_true.2 ⟨x, ?_, hin⟩).symm
        rw [← hx]; exact List.getElem_mem hkx)
      rw [hin] at CH
      clear hin hb hx
      go_wp2_with fail
      refine CH.out.mono ?_
      rintro e w' ⟨rfl, rfl⟩
      go_wp2
      go_ret
      exact ⟨retb HE.out, HBW.out⟩
    case false =>
      have HS : Hid (((xs.take (k + 1)).any fun f => decide (f ∈ ys)) = false) := Lib.hid (HSN.out.trans hin)
      rw [hin] at CH
      clear hin hb hx
      go_wp2_with fail
      refine CH.out.mono ?_
      rintro e w' ⟨rfl, rfl⟩
      go_wp2
      go_roundw
      case rel => exact ⟨k + 1, by omega, by go_num, HS, HBB.out⟩
      case measure => simp [intOf]; omega
set_option maxRecDepth 100000 in
set_option maxHeartbeats 4000000 in
theorem l9Light_ {g1 g2 n1 n2 c1 c2 : Nat} {ss : List ByteArray} {fs : List Q4} {w : World} (h : NetAt g1 g2 n1 n2 c1 c2 ss fs w) (x : Lt) (hx : LtAt w x) :
    Calls Try.prog 122 #[.agg #[.slice (some ⟨g1, 0, none⟩) n1 c1, .slice (some ⟨g2, 0, none⟩) n2 c2], .agg #[.int .i64 x.p0, .int .i64 x.p1, .slice x.A x.n x.c, .int .i64 x.q0, .int .i64 x.q1]] w (RetP (.bool (pb (lightP ss fs x.d))) w) := by
  obtain ⟨p0, p1, A, n, c, zs, q0, q1⟩ := x
  obtain ⟨hn, hs, hr⟩ := hx
  simp only at hn hs hr ⊢
  have HNT := Lib.hid h; have HN := Lib.hid hn; have HR := Lib.hid hr
  obtain ⟨r, hrr⟩ : ∃ r, pb (lightP ss fs (⟨p0, p1, A, n, c, zs, q0, q1⟩ : Lt).d) = r := ⟨_, rfl⟩
  have HP : Hid (lightP ss fs (⟨p0, p1, A, n, c, zs, q0, q1⟩ : Lt).d ↔ (1 ≤ p0 ∧ p0 ≤ 999) ∧ routeB ss fs p1 zs = true ∧ blkP q0 q1) := Lib.hid Iff.rfl
  rw [hrr]
  have HRR := Lib.hid hrr
  clear h hn hr hrr
  have CI := Lib.hid (fun W => in_ p0 1 999 W)
  have CB := Lib.hid (fun W => specBlk q0 q1 W)
  obtain ⟨b1, hb1⟩ : ∃ b, inB p0 1 999 = b := ⟨_, rfl⟩
  obtain ⟨b3, hb3⟩ : ∃ b, pb (blkP q0 q1) = b := ⟨_, rfl⟩
  rw [hb1] at CI; rw [hb3] at CB
  have H1 := Lib.hid hb1; have H3 := Lib.hid hb3
  clear hb1 hb3
  go_enter Try.func122, Try.ntmps122
  go_wp2_with fail
  obtain ⟨W0, hW0⟩ : ∃ W0, (w.alloc (Obj.cells #[.slice (some ⟨g1, 0, none⟩) n1 c1, .slice (some ⟨g2, 0, none⟩) n2 c2] 31)).alloc (Obj.cells #[.int .i64 p0, .int .i64 p1, .slice A n c, .int .i64 q0, .int .i64 q1] 120) = W0 := ⟨_, rfl⟩
  have hb0 : Below w.heap.size w W0 := by rw [← hW0]; exact ((Below.refl _ _).alloc (Nat.le_refl _) _).alloc (by simp) _
  have k0 : W0.cell? ⟨w.heap.size, 0, none⟩ = some (.slice (some ⟨g1, 0, none⟩) n1 c1) := by rw [← hW0]; simp [go_sem]
  have k1 : W0.cell? ⟨w.heap.size, 1, none⟩ = some (.slice (some ⟨g2, 0, none⟩) n2 c2) := by rw [← hW0]; simp [go_sem]
  have l1 : W0.cell? ⟨w.heap.size + 1, 1, none⟩ = some (.int .i64 p1) := by rw [← hW0]; simp [go_sem]
  have l2 : W0.cell? ⟨w.heap.size + 1, 2, none⟩ = some (.slice A n c) := by rw [← hW0]; simp [go_sem]
  have l3 : W0.cell? ⟨w.heap.size + 1, 3, none⟩ = some (.int .i64 q0) := by rw [← hW0]; simp [go_sem]
  have l4 : W0.cell? ⟨w.heap.size + 1, 4, none⟩ = some (.int .i64 q1) := by rw [← hW0]; simp [go_sem]
  have hz0 : w.heap.size + 1 < W0.heap.size := by rw [← hW0]; simp
  have HB0 := Lib.hid hb0
  rw [hW0]
  clear hW0 hb0
  refine (CI.out _).mono ?_
  rintro e w1 ⟨rfl, rfl⟩
  cases b1
  case false =>
    have HE : Hid (false = r) := Lib.hid (by rw [← HRR.out]; exact (pb_false (fun h => by have h2 := (HP.out.1 h).1; rw [inB_mk h2.1 h2.2] at H1; exact absurd H1.out (by decide))).symm)
    go_wp2
    go_ret
    exact ⟨retb HE.out, HB0.out⟩
  case true =>
  have CG := Lib.hid (l4Good_ (c := c) (HNT.out.moved HB0.out) p1 HN.out (HR.out.moved HB0.out) hs)
  obtain ⟨b2, hb2⟩ : ∃ b, routeB ss fs p1 zs = b := ⟨_, rfl⟩
  rw [hb2] at CG
  have H2 := Lib.hid hb2
  clear hb2
  go_wp2_with fail
  refine CG.out.mono ?_
  rintro e w2 ⟨rfl, hb2⟩
  have HB2 := Lib.hid (HB0.out.trans (hb2.mono HB0.out.size))
  have m3 := (hb2.cell (p := ⟨w.heap.size + 1, 3, none⟩) hz0).trans l3
  have m4 := (hb2.cell (p := ⟨w.heap.size + 1, 4, none⟩) hz0).trans l4
  clear k0 k1 l1 l2 l3 l4 hz0 hb2
  cases b2
  case false =>
    have HE : Hid (false = r) := Lib.hid (by rw [← HRR.out]; exact (pb_false (fun h => by have h2 := (HP.out.1 h).2.1; rw [H2.out] at h2; exact absurd h2 (by decide))).symm)
    go_wp2
    go_ret
    exact ⟨retb HE.out, HB2.out⟩
  case true =>
  go_wp2_with fail
  refine (CB.out _).mono ?_
  rintro e w3 ⟨rfl, hb3⟩
  have HB3 := Lib.hid (HB2.out.trans (hb3.mono HB2.out.size))
  have HE : Hid (b3 = r) := Lib.hid (by
    rw [← HRR.out, ← H3.out]
    by_cases hp : blkP q0 q1
    · rw [pb_true hp, pb_true (HP.out.2 ⟨inB_true H1.out, H2.out, hp⟩)]
    · rw [pb_false hp, pb_false (fun h => hp (HP.out.1 h).2.2)])
  clear hb3
  go_wp2
  go_ret
  exact ⟨retb HE.out, HB3.out⟩
theorem and_i64n (a b : Nat) (ha : a < 2 ^ 24) (hb : b < 2 ^ 24) : bits .and .i64 (a : Int) (b : Int) = ((a &&& b : Nat) : Int) := by
  have wr : ∀ n : Int, 0 ≤ n → n < 2 ^ 62 → IntKind.i64.wrap n = n := by intro n h0 h1; rw [IntKind.wrap_i64]; omega
  exact (bits_nat .i64 62 (by decide) wr a b (by omega) (by omega)).1
noncomputable def colB (x y : LtD) : Bool := pb (colP x y)
set_option maxRecDepth 100000 in
set_option maxHeartbeats 4000000 in
theorem l9Collide_ (x y : Lt) (w : World) (hx : LtAt w x) (hy : LtAt w y) (hbx : blkP x.q0 x.q1) (hby : blkP y.q0 y.q1) :
    Calls Try.prog 123 #[.agg #[.int .i64 x.p0, .int .i64 x.p1, .slice x.A x.n x.c, .int .i64 x.q0, .int .i64 x.q1], .agg #[.int .i64 y.p0, .int .i64 y.p1, .slice y.A y.n y.c, .int .i64 y.q0, .int .i64 y.q1]] w (RetP (.bool (colB x.d y.d)) w) := by
  obtain ⟨r, hrr⟩ : ∃ r, colB x.d y.d = r := ⟨_, rfl⟩
  rw [hrr]
  have HRR := Lib.hid hrr
  have hex := bitN_eq (d := x.d) hbx; have hey := bitN_eq (d := y.d) hby
  have hlx := bitN_lt (d := x.d) hbx; have hly := bitN_lt (d := y.d) hby
  have CX := Lib.hid (fun W => specBits x.q0 x.q1 W hbx)
  have CY := Lib.hid (fun W => specBits y.q0 y.q1 W hby)
  have hex2 : bitsV x.q0 x.q1 = (bitN x.d : Int) := hex
  have hey2 : bitsV y.q0 y.q1 = (bitN y.d : Int) := hey
  rw [hex2] at CX; rw [hey2] at CY
  obtain ⟨bx, hbxe⟩ : ∃ b, bitN x.d = b := ⟨_, rfl⟩
  obtain ⟨by_, hbye⟩ : ∃ b, bitN y.d = b := ⟨_, rfl⟩
  obtain ⟨u, hu⟩ : ∃ u, usesB x.d y.d = u := ⟨_, rfl⟩
  rw [hbxe] at CX hlx; rw [hbye] at CY hly
  have HC : Hid (colP x.d y.d ↔ u = true ∧ bx &&& by_ ≠ 0) := Lib.hid (by unfold colP; rw [hu, hbxe, hbye])
  have HU : Hid ((x.zs.any fun f => decide (f ∈ y.zs)) = u) := Lib.hid hu
  have hand := and_i64n bx by_ hlx hly
  clear hrr hex hey hex2 hey2 hbxe hbye hu hbx hby
  obtain ⟨p0, p1, A, n, c, zs, q0, q1⟩ := x
  obtain ⟨p0', p1', A', n', c', zs', q0', q1'⟩ := y
  obtain ⟨hn, hs, hr⟩ := hx
  obtain ⟨hn', hs', hr'⟩ := hy
  simp only at hn hs hr hn' hs' hr' CX CY HU ⊢
  have HN := Lib.hid hn; have HR := Lib.hid hr; have HN' := Lib.hid hn'; have HR' := Lib.hid hr'
  clear hn hr hn' hr'
  have HAND := Lib.hid hand
  obtain ⟨v, hv⟩ : ∃ v, bx &&& by_ = v := ⟨_, rfl⟩
  rw [hv] at HC HAND
  have hbits := HAND.out
  have HHV := Lib.hid hv
  clear hand hv hlx hly
  go_enter Try.func123, Try.ntmps123
  go_wp2_with fail
  obtain ⟨W0, hW0⟩ : ∃ W0, (w.alloc (Obj.cells #[.int .i64 p0, .int .i64 p1, .slice A n c, .int .i64 q0, .int .i64 q1] 120)).alloc (Obj.cells #[.int .i64 p0', .int .i64 p1', .slice A' n' c', .int .i64 q0', .int .i64 q1'] 120) = W0 := ⟨_, rfl⟩
  have hb0 : Below w.heap.size w W0 := by rw [← hW0]; exact ((Below.refl _ _).alloc (Nat.le_refl _) _).alloc (by simp) _
  have k1 : W0.cell? ⟨w.heap.size, 1, none⟩ = some (.int .i64 p1) := by rw [← hW0]; simp [go_sem]
  have k2 : W0.cell? ⟨w.heap.size, 2, none⟩ = some (.slice A n c) := by rw [← hW0]; simp [go_sem]
  have k3 : W0.cell? ⟨w.heap.size, 3, none⟩ = some (.int .i64 q0) := by rw [← hW0]; simp [go_sem]
  have k4 : W0.cell? ⟨w.heap.size, 4, none⟩ = some (.int .i64 q1) := by rw [← hW0]; simp [go_sem]
  have l2 : W0.cell? ⟨w.heap.size + 1, 2, none⟩ = some (.slice A' n' c') := by rw [← hW0]; simp [go_sem]
  have l3 : W0.cell? ⟨w.heap.size + 1, 3, none⟩ = some (.int .i64 q0') := by rw [← hW0]; simp [go_sem]
  have l4 : W0.cell? ⟨w.heap.size + 1, 4, none⟩ = some (.int .i64 q1') := by rw [← hW0]; simp [go_sem]
  have hz0 : w.heap.size + 1 < W0.heap.size := by rw [← hW0]; simp
  have hza : w.heap.size < W0.heap.size := by omega
  have HB0 := Lib.hid hb0
  rw [hW0]
  clear hW0 hb0
  obtain ⟨T, f, x0, hx0, hTT, HST⟩ := above W0
  haveI : Nonempty T := ⟨x0⟩
  have hbx : ∀ x, Below w.heap.size w (f x) := fun x => HB0.out.trans ((hTT x).mono HB0.out.size)
  have s1 : ∀ x, (f x).cell? ⟨w.heap.size, 1, none⟩ = some (.int .i64 p1) := fun x => ((hTT x).cell (p := ⟨_, _, none⟩) hza).trans k1
  have s2 : ∀ x, (f x).cell? ⟨w.heap.size, 2, none⟩ = some (.slice A n c) := fun x => ((hTT x).cell (p := ⟨_, _, none⟩) hza).trans k2
  have s3 : ∀ x, (f x).cell? ⟨w.heap.size, 3, none⟩ = some (.int .i64 q0) := fun x => ((hTT x).cell (p := ⟨_, _, none⟩) hza).trans k3
  have s4 : ∀ x, (f x).cell? ⟨w.heap.size, 4, none⟩ = some (.int .i64 q1) := fun x => ((hTT x).cell (p := ⟨_, _, none⟩) hza).trans k4
  have t2 : ∀ x, (f x).cell? ⟨w.heap.size + 1, 2, none⟩ = some (.slice A' n' c') := fun x => ((hTT x).cell (p := ⟨_, _, none⟩) hz0).trans l2
  have t3 : ∀ x, (f x).cell? ⟨w.heap.size + 1, 3, none⟩ = some (.int .i64 q0') := fun x => ((hTT x).cell (p := ⟨_, _, none⟩) hz0).trans l3
  have t4 : ∀ x, (f x).cell? ⟨w.heap.size + 1, 4, none⟩ = some (.int .i64 q1') := fun x => ((hTT x).cell (p := ⟨_, _, none⟩) hz0).trans l4
  have CU : Hid (∀ x, Calls Try.prog 157 #[.agg #[.int .i64 p1, .slice A n c], .slice A' n' c'] (f x) (RetP (.bool u) (f x))) := Lib.hid fun x => by
    have := l4Uses_ p1 A n c zs A' n' c' zs' (f x) HN.out (HR.out.moved (hbx x)) hs HN'.out (HR'.out.moved (hbx x)) hs'
    rw [HU.out] at this
    exact this
  have HBX := Lib.hid hbx
  have HXX := Lib.hid hx0
  clear hbx hx0 hTT k1 k2 k3 k4 l2 l3 l4 hz0 hza
  cases u
  case false =>
    have HE : Hid (false = r) := Lib.hid (by rw [← HRR.out]; exact (pb_false (fun h => absurd (HC.out.1 h).1 (by decide))).symm)
    refine wp_region_class f (by kernel_rfl) (by kernel_rfl) x0 HXX.out ?_
    repeat (go_big_quiet_step (first | (go_at_call 157; exact Calls.inClass HST (CU.out _)) | (go_at_call_of 158 (Value.agg #[.int .i64 q0, .int .i64 q1]); exact Calls.inClass HST (CX.out _)) | (go_at_call 158; exact Calls.inClass HST (CY.out _))))
    refine wpQuiet_nil ?_
    rintro _ ⟨x, rfl⟩
    have HB2 := Lib.hid (HBX.out x)
    clear s1 s2 s3 s4 t2 t3 t4
    go_wp2
    go_ret
    exact ⟨retb HE.out, HB2.out⟩
  case true =>
  have hv0 : (0 : Int) ≤ (v : Int) := by omega
  by_cases hv : v = 0
  · have HE : Hid (false = r) := Lib.hid (by rw [← HRR.out]; exact (pb_false (fun h => (HC.out.1 h).2 hv)).symm)
    subst hv
    refine wp_region_class f (by kernel_rfl) (by kernel_rfl) x0 HXX.out ?_
    repeat (go_big_quiet_step (first | (go_at_call 157; exact Calls.inClass HST (CU.out _)) | (go_at_call_of 158 (Value.agg #[.int .i64 q0, .int .i64 q1]); exact Calls.inClass HST (CX.out _)) | (go_at_call 158; exact Calls.inClass HST (CY.out _))))
    refine wpQuiet_nil ?_
    rintro _ ⟨x, rfl⟩
    have HB2 := Lib.hid (HBX.out x)
    clear s1 s2 s3 s4 t2 t3 t4
    go_wp2
    go_ret
    exact ⟨retb HE.out, HB2.out⟩
  · have HE : Hid (true = r) := Lib.hid (by rw [← HRR.out]; exact (pb_true (HC.out.2 ⟨rfl, hv⟩)).symm)
    have hvi : (v : Int) ≠ 0 := by omega
    have hvb : ((v : Int) != 0) = true := by simpa using hvi
    have hvc : ((v : Int) == 0) = false := by simpa using hvi
    clear hv hvi
    refine wp_region_class f (by kernel_rfl) (by kernel_rfl) x0 HXX.out ?_
    repeat (go_big_quiet_step (first | (go_at_call 157; exact Calls.inClass HST (CU.out _)) | (go_at_call_of 158 (Value.agg #[.int .i64 q0, .int .i64 q1]); exact Calls.inClass HST (CX.out _)) | (go_at_call 158; exact Calls.inClass HST (CY.out _))))
    refine wpQuiet_nil ?_
    rintro _ ⟨x, rfl⟩
    have HB2 := Lib.hid (HBX.out x)
    clear s1 s2 s3 s4 t2 t3 t4
    go_wp2
    go_ret
    exact ⟨retb HE.out, HB2.out⟩
end Go.Proofs.Ytkpendpjdemknaa

namespace Go.Proofs.Ytkpendpjdemknaa
open Go.ChangeShapes Go.WideShapes Go.ChangeAt Go.RowKit

theorem plan_net {ss : List ByteArray} {fs : List Q4} {ds : List LtD} (h : ¬ netP ss fs) : pb (planP ss fs ds) = false := pb_false fun x => h x.1
theorem plan_len {ss : List ByteArray} {fs : List Q4} {ds : List LtD} (h : ¬ ds.length ≤ 12) : pb (planP ss fs ds) = false := pb_false fun x => h x.2.1
theorem plan_step {ss : List ByteArray} {fs : List Q4} {ds : List LtD} {i : Nat} (hi : i < ds.length) (h : ¬ stepP ss fs ds i) : pb (planP ss fs ds) = false := pb_false fun x => h (x.2.2.1 i hi)
theorem plan_col {ss : List ByteArray} {fs : List Q4} {ds : List LtD} {i j : Nat} (hi : i < ds.length) (hj : j < i) (h : colP (dn ds j) (dn ds i)) : pb (planP ss fs ds) = false := pb_false fun x => x.2.2.2 i j hj hi h
theorem dn_at {ys : List Lt} {ds : List LtD} (hd : ys.map Lt.d = ds) {k : Nat} (hk : k < ys.length) {y : Lt} (hy : ys[k] = y) : dn ds k = y.d := by
  subst hd
  rw [dn_eq (by simpa using hk)]
  simp [hy]

set_option maxRecDepth 100000 in
set_option maxHeartbeats 8000000 in
theorem l9Good_ {g1 g2 g3 n1 n2 n3 c1 c2 B : Nat} {ss : List ByteArray} {fs : List Q4} {ys : List Lt} {ds : List LtD} {w : World} (h : NetAt g1 g2 n1 n2 c1 c2 ss fs w) (hT : Lts B g3 n3 ys w) (hd : ys.map Lt.d = ds) (hs : n3 ≤ 1048576) :
    Calls Try.prog 69 #[.agg #[.slice (some ⟨g1, 0, none⟩) n1 c1, .slice (some ⟨g2, 0, none⟩) n2 c2, .slice (some ⟨g3, 0, none⟩) n3 n3]] w (RetP (.bool (pb (planP ss fs ds))) w) := by
  have HNT := Lib.hid h; have HT := Lib.hid hT; have HD := Lib.hid hd
  have HLD : Hid (ds.length = n3) := Lib.hid (by rw [← hd, List.length_map]; exact hT.len)
  obtain ⟨r, hrr⟩ : ∃ r, pb (planP ss fs ds) = r := ⟨_, rfl⟩
  rw [hrr]
  have HRR := Lib.hid hrr
  clear h hT hd hrr
  go_enter Try.func69, Try.ntmps69
  go_wp2_with fail
  obtain ⟨W0, hW0⟩ : ∃ W0, w.alloc (Obj.cells #[.slice (some ⟨g1, 0, none⟩) n1 c1, .slice (some ⟨g2, 0, none⟩) n2 c2, .slice (some ⟨g3, 0, none⟩) n3 n3] 46) = W0 := ⟨_, rfl⟩
  have hb0 : Below w.heap.size w W0 := by rw [← hW0]; exact (Below.refl _ _).alloc (Nat.le_refl _) _
  have hk0 : W0.cell? ⟨w.heap.size, 0, none⟩ = some (.slice (some ⟨g1, 0, none⟩) n1 c1) := by rw [← hW0]; simp [go_sem]
  have hk1 : W0.cell? ⟨w.heap.size, 1, none⟩ = some (.slice (some ⟨g2, 0, none⟩) n2 c2) := by rw [← hW0]; simp [go_sem]
  have hk2 : W0.cell? ⟨w.heap.size, 2, none⟩ = some (.slice (some ⟨g3, 0, none⟩) n3 n3) := by rw [← hW0]; simp [go_sem]
  have hz0 : w.heap.size < W0.heap.size := by rw [← hW0]; simp
  have HB0 := Lib.hid hb0; have HK0 := Lib.hid hk0; have HK1 := Lib.hid hk1; have HK2 := Lib.hid hk2; have HZB := Lib.hid hz0
  rw [hW0]
  clear hW0 hb0 hk0 hk1 hk2 hz0
  refine (specNet_ (HNT.out.moved HB0.out)).mono ?_
  rintro e w1 ⟨rfl, hb1⟩
  have HB1 := Lib.hid hb1
  have HB01 := Lib.hid (HB0.out.trans (hb1.mono HB0.out.size))
  have k2 := (hb1.cell (p := ⟨w.heap.size, 2, none⟩) HZB.out).trans HK2.out
  clear hb1
  by_cases hv : netP ss fs
  case neg =>
    have HE : Hid (false = r) := Lib.hid (by rw [← HRR.out]; exact (plan_net hv).symm)
    rw [pb_false hv]
    clear hv
    go_wp2
    go_ret
    exact ⟨retb HE.out, HB01.out⟩
  case pos =>
  have HV := Lib.hid hv
  rw [pb_true hv]
  clear hv
  by_cases hl : n3 ≤ 12
  case neg =>
    have HE : Hid (false = r) := Lib.hid (by rw [← HRR.out]; exact (plan_len (by have := HLD.out; omega)).symm)
    have hl2 : 12 < (n3 : Int) := by omega
    clear hl
    go_wp2
    go_ret
    exact ⟨retb HE.out, HB01.out⟩
  case pos =>
  have HL12 := Lib.hid hl
  have hl2 : (n3 : Int) ≤ 12 := by omega
  clear hl
  go_wp2
  clear k2
  go_loopw [3] (fun i wr => ∃ k : Nat, k ≤ n3 ∧ i = .int .i64 k ∧ Hid (∀ i, i < k → stepP ss fs ds i) ∧ Hid (∀ i j, j < i → i < k → ¬ colP (dn ds j) (dn ds i)) ∧ Below W0.heap.size W0 wr) (fun i _ => n3 - (intOf i).toNat)
  case atStart => exact ⟨0, Nat.zero_le _, rfl, Lib.hid (fun i hi => absurd hi (by omega)), Lib.hid (fun i j _ hi => absurd hi (by omega)), HB1.out⟩
  case round =>
    obtain ⟨k, hk, rfl, HA, HC, hb⟩ := hrel
    have HBW := Lib.hid (HB0.out.trans (hb.mono HB0.out.size))
    have HBR := Lib.hid hb
    have k2 := (hb.cell (p := ⟨w.heap.size, 2, none⟩) HZB.out).trans HK2.out
    have hzw : w.heap.size < wr.heap.size := Nat.lt_of_lt_of_le HZB.out hb.size
    by_cases hlt : k < n3
    case neg =>
      have HE : Hid (true = r) := Lib.hid (by
        rw [← HRR.out]
        exact (pb_true ⟨HV.out, by have := HLD.out; have := HL12.out; omega, fun i hi => HA.out i (by have := HLD.out; omega), fun i j hj hi => HC.out i j hj (by have := HLD.out; omega)⟩).symm)
      clear hb
      go_wp2
      go_ret
      exact ⟨retb HE.out, HBW.out⟩
    case pos =>
    have hkl : k < ys.length := by have := HT.out.len; omega
    have HKL := Lib.hid hkl
    have HKD : Hid (k < ds.length) := Lib.hid (by have := HLD.out; omega)
    obtain ⟨y, hke⟩ : ∃ y, ys[k]'hkl = y := ⟨_, rfl⟩
    have HDK := Lib.hid (dn_at HD.out hkl hke)
    have hyat : LtAt w y := by rw [← hke]; exact HT.out.at_ _ (List.getElem_mem hkl)
    have HYE := Lib.hid hke
    have HYA := Lib.hid hyat
    obtain ⟨T, f, x0, hx0, hTT, HST⟩ := above wr
    haveI : Nonempty T := ⟨x0⟩
    have hbx : ∀ x, Below w.heap.size w (f x) := fun x => HBW.out.trans ((hTT x).mono HBW.out.size)
    have hba : ∀ x, Below W0.heap.size W0 (f x) := fun x => HBR.out.trans ((hTT x).mono HBR.out.size)
    have s0 : ∀ x, (f x).cell? ⟨w.heap.size, 0, none⟩ = some (.slice (some ⟨g1, 0, none⟩) n1 c1) := fun x => ((hba x).cell (p := ⟨w.heap.size, 0, none⟩) HZB.out).trans HK0.out
    have s1 : ∀ x, (f x).cell? ⟨w.heap.size, 1, none⟩ = some (.slice (some ⟨g2, 0, none⟩) n2 c2) := fun x => ((hba x).cell (p := ⟨w.heap.size, 1, none⟩) HZB.out).trans HK1.out
    have s2 : ∀ x, (f x).cell? ⟨w.heap.size, 2, none⟩ = some (.slice (some ⟨g3, 0, none⟩) n3 n3) := fun x => ((hba x).cell (p := ⟨w.heap.size, 2, none⟩) HZB.out).trans HK2.out
    have rk_ : ∀ x, (f x).cell? ⟨g3, k * 5, none⟩ = some (.int .i64 y.p0) ∧ (f x).cell? ⟨g3, k * 5 + 1, none⟩ = some (.int .i64 y.p1) ∧ (f x).cell? ⟨g3, k * 5 + 2, none⟩ = some (.slice y.A y.n y.c) ∧ (f x).cell? ⟨g3, k * 5 + 3, none⟩ = some (.int .i64 y.q0) ∧ (f x).cell? ⟨g3, k * 5 + 4, none⟩ = some (.int .i64 y.q1) := fun x => by
      obtain ⟨_, f0, f1, f2, f3, f4⟩ := (HT.out.moved (hbx x)).rd.ltc hkl
      rw [Nat.zero_add, hke] at f0 f1 f2 f3 f4
      exact ⟨f0, f1, f2, f3, f4⟩
    have rk0 := fun x => (rk_ x).1
    have rk1 := fun x => (rk_ x).2.1
    have rk2 := fun x => (rk_ x).2.2.1
    have rk3 := fun x => (rk_ x).2.2.2.1
    have rk4 := fun x => (rk_ x).2.2.2.2
    clear rk_
    have CL : Hid (∀ x, Calls Try.prog 122 #[.agg #[.slice (some ⟨g1, 0, none⟩) n1 c1, .slice (some ⟨g2, 0, none⟩) n2 c2], .agg #[.int .i64 y.p0, .int .i64 y.p1, .slice y.A y.n y.c, .int .i64 y.q0, .int .i64 y.q1]] (f x) (RetP (.bool (pb (lightP ss fs y.d))) (f x))) := Lib.hid fun x => l9Light_ (HNT.out.moved (hbx x)) y (hyat.moved (hbx x))
    have HT1 : Hid (∀ x, Below W0.heap.size W0 (f x)) := Lib.hid hba
    have HBX := Lib.hid hbx
    have HXX := Lib.hid hx0
    clear hba hTT hx0 hyat hke
    obtain ⟨b1, hb1⟩ : ∃ b, pb (lightP ss fs y.d) = b := ⟨_, rfl⟩
    rw [hb1] at CL
    have HLB : Hid (b1 = true ↔ lightP ss fs (dn ds k)) := Lib.hid (by
      rw [HDK.out]
      by_cases hp : lightP ss fs y.d
      · rw [pb_true hp] at hb1; exact ⟨fun _ => hp, fun _ => hb1.symm⟩
      · rw [pb_false hp] at hb1; exact ⟨fun h => by rw [← hb1] at h; exact absurd h (by decide), fun h => absurd h hp⟩)
    clear hb1
    go_upto_region 6 with fail
    go_cut [50] (fun s50 wx => ∃ bb : Bool, s50 = .bool bb ∧ Hid (bb = true ↔ ¬ stepP ss fs ds k) ∧ Hid (Below W0.heap.size W0 wx))
    case first =>
      cases b1
      case false =>
        have HE : Hid (true = true ↔ ¬ stepP ss fs ds k) := Lib.hid ⟨fun _ h => absurd (HLB.out.2 h.1) (by decide), fun _ => rfl⟩
        clear hbx
        refine wp_region_class f (by kernel_rfl) (by kernel_rfl) x0 HXX.out ?_
        repeat (go_big_quiet_step ((go_at_call 122; exact Calls.inClass HST (CL.out _))))
        refine wpQuiet_nil ?_
        rintro _ ⟨x, rfl⟩
        have HB2 := Lib.hid (HT1.out x)
        go_wp2_with fail
        go_meet
        exact ⟨true, rfl, Lib.hid ⟨fun _ => HE.out.1 trivial, fun _ => rfl⟩, HB2⟩
      case true =>
      by_cases hk0 : k = 0
      case pos =>
        have HE : Hid (false = true ↔ ¬ stepP ss fs ds k) := Lib.hid ⟨fun h => absurd h (by decide), fun h => absurd ⟨HLB.out.1 rfl, fun h0 => absurd h0 (by omega)⟩ h⟩
        subst hk0
        clear hbx
        simp only [Nat.zero_mul, Nat.zero_add] at rk0 rk1 rk2 rk3 rk4
        refine wp_region_class f (by kernel_rfl) (by kernel_rfl) x0 HXX.out ?_
        repeat (go_big_quiet_step ((go_at_call 122; exact Calls.inClass HST (CL.out _))))
        refine wpQuiet_nil ?_
        rintro _ ⟨x, rfl⟩
        have HB2 := Lib.hid (HT1.out x)
        go_wp2_with fail
        go_meet
        exact ⟨false, rfl, HE, HB2⟩
      case neg =>
      obtain ⟨m, hkm⟩ : ∃ m, k = m + 1 := ⟨k - 1, by omega⟩
      have hwr := pred_wrap_ k m hkm (by have := HL12.out; omega)
      have hml : m < ys.length := by omega
      have hmn : (m : Int) < n3 := by omega
      obtain ⟨z, hme⟩ : ∃ z, ys[m]'hml = z := ⟨_, rfl⟩
      have HDM := Lib.hid (dn_at HD.out hml hme)
      have rm_ : ∀ x, (f x).cell? ⟨g3, m * 5, none⟩ = some (.int .i64 z.p0) ∧ (f x).cell? ⟨g3, m * 5 + 1, none⟩ = some (.int .i64 z.p1) ∧ (f x).cell? ⟨g3, m * 5 + 2, none⟩ = some (.slice z.A z.n z.c) ∧ (f x).cell? ⟨g3, m * 5 + 3, none⟩ = some (.int .i64 z.q0) ∧ (f x).cell? ⟨g3, m * 5 + 4, none⟩ = some (.int .i64 z.q1) := fun x => by
        obtain ⟨_, f0, f1, f2, f3, f4⟩ := (HT.out.moved (hbx x)).rd.ltc hml
        rw [Nat.zero_add, hme] at f0 f1 f2 f3 f4
        exact ⟨f0, f1, f2, f3, f4⟩
      have rm0 := fun x => (rm_ x).1
      have rm1 := fun x => (rm_ x).2.1
      have rm2 := fun x => (rm_ x).2.2.1
      have rm3 := fun x => (rm_ x).2.2.2.1
      have rm4 := fun x => (rm_ x).2.2.2.2
      clear rm_
      clear rm1 rm2 rm3 rm4
      have hd0 : decide (0 < k) = true := decide_eq_true (by omega)
      have HS : Hid (stepP ss fs ds k ↔ z.p0 < y.p0) := Lib.hid (by
        unfold stepP
        have e : k - 1 = m := by omega
        rw [e, HDM.out, HDK.out]
        constructor
        · intro h; exact h.2 (by omega)
        · intro h; exact ⟨by rw [← HDK.out]; exact HLB.out.1 rfl, fun _ => h⟩)
      by_cases hid : y.p0 ≤ z.p0
      · have HE : Hid (true = true ↔ ¬ stepP ss fs ds k) := Lib.hid ⟨fun _ h => by have := HS.out.1 h; omega, fun _ => rfl⟩
        clear hbx hkm hme hk0
        refine wp_region_class f (by kernel_rfl) (by kernel_rfl) x0 HXX.out ?_
        repeat (go_big_quiet_step ((go_at_call 122; exact Calls.inClass HST (CL.out _))))
        refine wpQuiet_nil ?_
        rintro _ ⟨x, rfl⟩
        have HB2 := Lib.hid (HT1.out x)
        clear hwr
        go_wp2_with fail
        go_meet
        exact ⟨true, rfl, Lib.hid ⟨fun _ => HE.out.1 trivial, fun _ => rfl⟩, HB2⟩
      · have HE : Hid (false = true ↔ ¬ stepP ss fs ds k) := Lib.hid ⟨fun h => absurd h (by decide), fun h => absurd (HS.out.2 (by omega)) h⟩
        have hid2 : z.p0 < y.p0 := by omega
        have hid3 : decide (y.p0 ≤ z.p0) = false := decide_eq_false hid
        clear hbx hkm hme hk0 hid
        refine wp_region_class f (by kernel_rfl) (by kernel_rfl) x0 HXX.out ?_
        repeat (go_big_quiet_step ((go_at_call 122; exact Calls.inClass HST (CL.out _))))
        refine wpQuiet_nil ?_
        rintro _ ⟨x, rfl⟩
        have HB2 := Lib.hid (HT1.out x)
        clear hwr
        go_wp2_with fail
        go_meet
        exact ⟨false, rfl, HE, HB2⟩
    case rest =>
    clear s0 s1 s2 rk0 rk1 rk2 rk3 rk4 hbx k2
    revert hcut; generalize wc = w2; intro hcut
    obtain ⟨bb, h0_, HE, HB2⟩ := hcut
    subst h0_
    have HB2W := Lib.hid (HB0.out.trans (HB2.out.mono HB0.out.size))
    cases bb
    case true =>
      have HR2 : Hid (false = r) := Lib.hid (by rw [← HRR.out]; exact (plan_step HKD.out (HE.out.1 rfl)).symm)
      go_wp2
      go_ret
      exact ⟨retb HR2.out, HB2W.out⟩
    case false =>
    have HSK : Hid (stepP ss fs ds k) := Lib.hid (Classical.byContradiction fun h => absurd (HE.out.2 h) (by decide))
    have hbf := HB2.out
    clear hb
    go_wp2
    go_loopw [4] (fun i wr => ∃ j : Nat, j ≤ k ∧ i = .int .i64 j ∧ Hid (∀ t, t < j → ¬ colP (dn ds t) (dn ds k)) ∧ Below W0.heap.size W0 wr) (fun i _ => k - (intOf i).toNat)
    case atStart => exact ⟨0, Nat.zero_le _, rfl, Lib.hid (fun t ht => absurd ht (by omega)), hbf⟩
    case round =>
      obtain ⟨j, hj, rfl, HJ, hb⟩ := hrel
      have HBWJ := Lib.hid (HB0.out.trans (hb.mono HB0.out.size))
      have HBRJ := Lib.hid hb
      by_cases hjl : j < k
      case neg =>
        have HA2 : Hid (∀ i, i < k + 1 → stepP ss fs ds i) := Lib.hid (fun i hi => by
          by_cases h : i < k
          · exact HA.out i h
          · obtain rfl : i = k := by omega
            exact HSK.out)
        have HC2 : Hid (∀ i j, j < i → i < k + 1 → ¬ colP (dn ds j) (dn ds i)) := Lib.hid (fun i j' hji hi => by
          by_cases h : i < k
          · exact HC.out i j' hji h
          · obtain rfl : i = k := by omega
            exact HJ.out j' (by omega))
        clear hb hbf
        go_wp2
        go_roundw
        case rel => exact ⟨k + 1, by omega, by go_num, HA2, HC2, HBRJ.out⟩
        case measure => simp [intOf]; omega
      case pos =>
      have hjll : j < ys.length := by have := HKL.out; omega
      have hkl := HKL.out
      obtain ⟨z, hje⟩ : ∃ z, ys[j]'hjll = z := ⟨_, rfl⟩
      have HDJ := Lib.hid (dn_at HD.out hjll hje)
      have hzat : LtAt w z := by rw [← hje]; exact HT.out.at_ _ (List.getElem_mem hjll)
      have hke := HYE.out
      have HLK := (HSK.out.1); rw [HDK.out] at HLK
      have HLJ := (HA.out j hjl).1; rw [HDJ.out] at HLJ
      obtain ⟨T, f, x0, hx0, hTT, HST⟩ := above wr
      haveI : Nonempty T := ⟨x0⟩
      have hbx : ∀ x, Below w.heap.size w (f x) := fun x => HBWJ.out.trans ((hTT x).mono HBWJ.out.size)
      have hba : ∀ x, Below W0.heap.size W0 (f x) := fun x => HBRJ.out.trans ((hTT x).mono HBRJ.out.size)
      have s2 : ∀ x, (f x).cell? ⟨w.heap.size, 2, none⟩ = some (.slice (some ⟨g3, 0, none⟩) n3 n3) := fun x => ((hba x).cell (p := ⟨w.heap.size, 2, none⟩) HZB.out).trans HK2.out
      have rk_ : ∀ x, (f x).cell? ⟨g3, k * 5, none⟩ = some (.int .i64 y.p0) ∧ (f x).cell? ⟨g3, k * 5 + 1, none⟩ = some (.int .i64 y.p1) ∧ (f x).cell? ⟨g3, k * 5 + 2, none⟩ = some (.slice y.A y.n y.c) ∧ (f x).cell? ⟨g3, k * 5 + 3, none⟩ = some (.int .i64 y.q0) ∧ (f x).cell? ⟨g3, k * 5 + 4, none⟩ = some (.int .i64 y.q1) := fun x => by
        obtain ⟨_, f0, f1, f2, f3, f4⟩ := (HT.out.moved (hbx x)).rd.ltc hkl
        rw [Nat.zero_add, hke] at f0 f1 f2 f3 f4
        exact ⟨f0, f1, f2, f3, f4⟩
      have rk0 := fun x => (rk_ x).1
      have rk1 := fun x => (rk_ x).2.1
      have rk2 := fun x => (rk_ x).2.2.1
      have rk3 := fun x => (rk_ x).2.2.2.1
      have rk4 := fun x => (rk_ x).2.2.2.2
      clear rk_
      have rj_ : ∀ x, (f x).cell? ⟨g3, j * 5, none⟩ = some (.int .i64 z.p0) ∧ (f x).cell? ⟨g3, j * 5 + 1, none⟩ = some (.int .i64 z.p1) ∧ (f x).cell? ⟨g3, j * 5 + 2, none⟩ = some (.slice z.A z.n z.c) ∧ (f x).cell? ⟨g3, j * 5 + 3, none⟩ = some (.int .i64 z.q0) ∧ (f x).cell? ⟨g3, j * 5 + 4, none⟩ = some (.int .i64 z.q1) := fun x => by
        obtain ⟨_, f0, f1, f2, f3, f4⟩ := (HT.out.moved (hbx x)).rd.ltc hjll
        rw [Nat.zero_add, hje] at f0 f1 f2 f3 f4
        exact ⟨f0, f1, f2, f3, f4⟩
      have rj0 := fun x => (rj_ x).1
      have rj1 := fun x => (rj_ x).2.1
      have rj2 := fun x => (rj_ x).2.2.1
      have rj3 := fun x => (rj_ x).2.2.2.1
      have rj4 := fun x => (rj_ x).2.2.2.2
      clear rj_
      have CC : Hid (∀ x, Calls Try.prog 123 #[.agg #[.int .i64 z.p0, .int .i64 z.p1, .slice z.A z.n z.c, .int .i64 z.q0, .int .i64 z.q1], .agg #[.int .i64 y.p0, .int .i64 y.p1, .slice y.A y.n y.c, .int .i64 y.q0, .int .i64 y.q1]] (f x) (RetP (.bool (colB z.d y.d)) (f x))) := Lib.hid fun x => l9Collide_ z y (f x) (hzat.moved (hbx x)) (HYA.out.moved (hbx x)) HLJ.2.2 HLK.2.2
      have HT1 : Hid (∀ x, Below W0.heap.size W0 (f x)) := Lib.hid hba
      have HXX := Lib.hid hx0
      have hjn : (j : Int) < n3 := by omega
      obtain ⟨cb, hcb⟩ : ∃ cb, colB z.d y.d = cb := ⟨_, rfl⟩
      rw [hcb] at CC
      have HCB : Hid (cb = true ↔ colP (dn ds j) (dn ds k)) := Lib.hid (by
        rw [HDJ.out, HDK.out, ← hcb]
        unfold colB
        by_cases hp : colP z.d y.d
        · rw [pb_true hp]; exact ⟨fun _ => hp, fun _ => rfl⟩
        · rw [pb_false hp]; exact ⟨fun h => absurd h (by decide), fun h => absurd h hp⟩)
      clear hba hbx hTT hx0 hzat hje hke HLK HLJ hcb hb hbf
      cases cb
      case true =>
        have HR2 : Hid (false = r) := Lib.hid (by rw [← HRR.out]; exact (plan_col HKD.out hjl (HCB.out.1 rfl)).symm)
        go_wp2
        refine wp_region_class f (by kernel_rfl) (by kernel_rfl) x0 HXX.out ?_
        repeat (go_big_quiet_step ((go_at_call 123; exact Calls.inClass HST (CC.out _))))
        refine wpQuiet_nil ?_
        rintro _ ⟨x, rfl⟩
        have HB2 := Lib.hid (HT1.out x)
        clear s2 rk0 rk1 rk2 rk3 rk4 rj0 rj1 rj2 rj3 rj4
        go_wp2
        go_ret
        exact ⟨retb HR2.out, HB0.out.trans (HB2.out.mono HB0.out.size)⟩
      case false =>
        have HJ2 : Hid (∀ t, t < j + 1 → ¬ colP (dn ds t) (dn ds k)) := Lib.hid (fun t ht hc => by
          by_cases h : t < j
          · exact HJ.out t h hc
          · obtain rfl : t = j := by omega
            exact absurd (HCB.out.2 hc) (by decide))
        go_wp2
        refine wp_region_class f (by kernel_rfl) (by kernel_rfl) x0 HXX.out ?_
        repeat (go_big_quiet_step ((go_at_call 123; exact Calls.inClass HST (CC.out _))))
        refine wpQuiet_nil ?_
        rintro _ ⟨x, rfl⟩
        have HB2 := Lib.hid (HT1.out x)
        clear s2 rk0 rk1 rk2 rk3 rk4 rj0 rj1 rj2 rj3 rj4
        go_wp2
        go_roundw
        case rel => exact ⟨j + 1, by omega, by go_num, HJ2, HB2.out⟩
        case measure => simp [intOf]; omega
end Go.Proofs.Ytkpendpjdemknaa

namespace Go.Proofs.Ytkpendpjdemknaa
open Go.ChangeShapes Go.WideShapes Go.ChangeAt Go.RowKit Go.Maps

set_option maxRecDepth 100000 in
set_option maxHeartbeats 4000000 in
theorem isLight_ {g1 g2 n1 n2 c1 c2 : Nat} {ss : List ByteArray} {fs : List Q4} {w : World} (h : NetAt g1 g2 n1 n2 c1 c2 ss fs w) (hv : netP ss fs) (x : Lt) (hx : LtAt w x) :
    Calls Try.prog 126 #[.agg #[.slice (some ⟨g1, 0, none⟩) n1 c1, .slice (some ⟨g2, 0, none⟩) n2 c2], .agg #[.int .i64 x.p0, .int .i64 x.p1, .slice x.A x.n x.c, .int .i64 x.q0, .int .i64 x.q1]] w (RetP (.bool (pb (lightP ss fs x.d))) w) := by
  obtain ⟨p0, p1, A, n, c, zs, q0, q1⟩ := x
  obtain ⟨hn, hs, hr⟩ := hx
  simp only at hn hs hr ⊢
  have HNT := Lib.hid h; have HN := Lib.hid hn; have HR := Lib.hid hr; have HV := Lib.hid hv; have HL1 := Lib.hid h.ln1
  obtain ⟨r, hrr⟩ : ∃ r, pb (lightP ss fs (⟨p0, p1, A, n, c, zs, q0, q1⟩ : Lt).d) = r := ⟨_, rfl⟩
  have HP : Hid (lightP ss fs (⟨p0, p1, A, n, c, zs, q0, q1⟩ : Lt).d ↔ (1 ≤ p0 ∧ p0 ≤ 999) ∧ routeB ss fs p1 zs = true ∧ blkP q0 q1) := Lib.hid Iff.rfl
  rw [hrr]
  have HRR := Lib.hid hrr
  clear h hn hr hrr hv
  have CB := Lib.hid (fun W => implBlk q0 q1 W)
  obtain ⟨b3, hb3⟩ : ∃ b, pb (blkP q0 q1) = b := ⟨_, rfl⟩
  rw [hb3] at CB
  have H3 := Lib.hid hb3
  clear hb3
  go_enter Try.func126, Try.ntmps126
  go_wp2_with fail
  obtain ⟨W0, hW0⟩ : ∃ W0, (w.alloc (Obj.cells #[.slice (some ⟨g1, 0, none⟩) n1 c1, .slice (some ⟨g2, 0, none⟩) n2 c2] 31)).alloc (Obj.cells #[.int .i64 p0, .int .i64 p1, .slice A n c, .int .i64 q0, .int .i64 q1] 120) = W0 := ⟨_, rfl⟩
  have hb0 : Below w.heap.size w W0 := by rw [← hW0]; exact ((Below.refl _ _).alloc (Nat.le_refl _) _).alloc (by simp) _
  have l0 : W0.cell? ⟨w.heap.size + 1, 0, none⟩ = some (.int .i64 p0) := by rw [← hW0]; simp [go_sem]
  have l3 : W0.cell? ⟨w.heap.size + 1, 3, none⟩ = some (.int .i64 q0) := by rw [← hW0]; simp [go_sem]
  have l4 : W0.cell? ⟨w.heap.size + 1, 4, none⟩ = some (.int .i64 q1) := by rw [← hW0]; simp [go_sem]
  have hz0 : w.heap.size + 1 < W0.heap.size := by rw [← hW0]; simp
  have HB0 := Lib.hid hb0
  rw [hW0]
  clear hW0 hb0
  have CW := Lib.hid (walkAlong_ (c := c) (HNT.out.moved HB0.out) HV.out p1 HN.out (HR.out.moved HB0.out) hs)
  refine CW.out.mono ?_
  rintro e w1 ⟨hb1, h1⟩
  have HB1 := Lib.hid (HB0.out.trans (hb1.mono HB0.out.size))
  have m0 := (hb1.cell (p := ⟨w.heap.size + 1, 0, none⟩) hz0).trans l0
  have m3 := (hb1.cell (p := ⟨w.heap.size + 1, 3, none⟩) hz0).trans l3
  have m4 := (hb1.cell (p := ⟨w.heap.size + 1, 4, none⟩) hz0).trans l4
  clear l0 l3 l4 hz0 hb1
  rcases h1 with ⟨hs1, rfl⟩ | ⟨vs, g', hs1, rfl, _⟩
  · have HE : Hid (false = r) := Lib.hid (by rw [← HRR.out]; exact (pb_false (fun h => by have h2 := (HP.out.1 h).2.1; rw [routeB_no HV.out (by rw [HL1.out]; exact hs1)] at h2; exact absurd h2 (by decide))).symm)
    clear hs1
    go_wp2
    go_ret
    exact ⟨retb HE.out, HB1.out⟩
  · have HRB : Hid (routeB ss fs p1 zs = true) := Lib.hid (routeB_some HV.out (by rw [HL1.out]; exact hs1))
    clear hs1
    by_cases hp1 : 1 ≤ p0
    case neg =>
      have HE : Hid (false = r) := Lib.hid (by rw [← HRR.out]; exact (pb_false (fun h => hp1 (HP.out.1 h).1.1)).symm)
      have q : decide (1 ≤ p0) = false := decide_eq_false hp1
      clear hp1
      go_wp2
      go_ret
      exact ⟨retb HE.out, HB1.out⟩
    case pos =>
    by_cases hp2 : p0 ≤ 999
    case neg =>
      have HE : Hid (false = r) := Lib.hid (by rw [← HRR.out]; exact (pb_false (fun h => hp2 (HP.out.1 h).1.2)).symm)
      have q : decide (p0 ≤ 999) = false := decide_eq_false hp2
      clear hp2
      go_wp2
      go_ret
      exact ⟨retb HE.out, HB1.out⟩
    case pos =>
    have HE : Hid (b3 = r) := Lib.hid (by
      rw [← HRR.out, ← H3.out]
      by_cases hp : blkP q0 q1
      · rw [pb_true hp, pb_true (HP.out.2 ⟨⟨hp1, hp2⟩, HRB.out, hp⟩)]
      · rw [pb_false hp, pb_false (fun h => hp (HP.out.1 h).2.2)])
    go_wp2_with fail
    refine (CB.out _).mono ?_
    rintro e w3 ⟨rfl, hb3⟩
    have HB3 := Lib.hid (HB1.out.trans (hb3.mono HB1.out.size))
    clear hb3
    go_wp2
    go_ret
    exact ⟨retb HE.out, HB3.out⟩

theorem law_int : Keyed Try.prog 3 := int_keyed Try.underlying3
theorem zero_int (w : World) : (zeroValue 3).run Try.prog w = .ok (.int .i64 0) w := by kernel_rfl
abbrev Du := DataW Unit
abbrev OwnM (w : World) (B n : Nat) (D : Du) : Prop := w.ownsMap Try.prog 3 (plainElem Try.prog 3) B n D
/-- the map's datum reads as a function. -/
def MapF (D : Du) (F : Int → Nat) : Prop := ∀ x : Int, D.atKey (.int .i64 x) (.lit (.int .i64 0)) = .lit (.int .i64 (F x : Int))
theorem OwnM.below {w w' : World} {B n : Nat} {D : Du} (h : OwnM w B n D) (hb : Below w.heap.size w w') : OwnM w' B n D := by
  obtain ⟨es, clock, h1, F, h2, h3⟩ := h
  exact ⟨es, clock, (hb.block B (Array.getElem?_eq_some_iff.1 h1).1).trans h1, F, h2, h3⟩
theorem OwnM.isMap {w : World} {B n : Nat} {D : Du} (h : OwnM w B n D) : IsMap D := by
  obtain ⟨es, clock, h1, F, h2, h3⟩ := h
  exact ⟨_, h3⟩
theorem mapF_nil : MapF (.map []) (fun _ => 0) := fun x => rfl
theorem MapF.val {D : Du} {F : Int → Nat} (h : MapF D F) {x c : Int} (hat : D.atKey (.int .i64 x) (.lit (.int .i64 0)) = .lit (.int .i64 c)) : c = (F x : Int) := by
  rw [h x] at hat
  injection hat with hat
  injection hat with _ hat
  exact hat.symm
theorem MapF.put {D : Du} {F G : Int → Nat} (h : MapF D F) (hD : IsMap D) (x : Int) (v : Nat) (hx : G x = v) (ho : ∀ y, y ≠ x → G y = F y) : MapF (D.put (.int .i64 x) (.lit (.int .i64 (v : Int)))) G := by
  intro y
  by_cases hy : y = x
  · subst hy
    rw [atKey_put_same hD (show WideAt.IsKeyLit (.int .i64 y) from trivial), hx]
  · rw [atKey_put_other (fun e => hy (by injection e)), h y, ho y hy]
def OccP (ds : List LtD) (w : World) (e : Ending) (w' : World) : Prop :=
  Below w.heap.size w w' ∧ ((¬ apartP ds ∧ e = .returned (.tuple #[.map none, .bool false])) ∨
    (apartP ds ∧ ∃ (B n : Nat) (D : Du), e = .returned (.tuple #[.map (some B), .bool true]) ∧ w.heap.size ≤ B ∧ OwnM w' B n D ∧ MapF D (usedK ds ds.length)))
structure GoodD (d : LtD) : Prop where
  nd : d.zs.Nodup
  fib : ∀ x ∈ d.zs, 0 ≤ x ∧ x < 1048576
  blk : blkP d.q0 d.q1
theorem lightP_good {ss : List ByteArray} {fs : List Q4} {d : LtD} (h : lightP ss fs d) (hn : netP ss fs) : GoodD d := by
  obtain ⟨_, hr, hb⟩ := h
  obtain ⟨h1, h2⟩ := route_nodup hr
  exact ⟨h1, fun x hx => by have := h2 x hx; have hf := hn.2.1; omega, hb⟩
set_option maxRecDepth 100000 in
set_option maxHeartbeats 8000000 in
theorem occupied_ {g n B0 : Nat} {ys : List Lt} {ds : List LtD} {w : World} (hT : Lts B0 g n ys w) (hd : ys.map Lt.d = ds) (hs : n ≤ 12) (hgood : ∀ t, t < ds.length → GoodD (dn ds t)) :
    Calls Try.prog 127 #[.slice (some ⟨g, 0, none⟩) n n] w (OccP ds w) := by
  have HT := Lib.hid hT; have HD := Lib.hid hd; have HG := Lib.hid hgood
  have HLD : Hid (ds.length = n) := Lib.hid (by rw [← hd, List.length_map]; exact hT.len)
  clear hT hd hgood
  have hmm := @run_makeMap Try.prog
  go_enter Try.func127, Try.ntmps127
  go_wp2
  go_loopw [13] (fun i wr => ∃ (k cnt : Nat) (D : Du), k ≤ n ∧ i = .int .i64 k ∧ Hid (OwnM wr w.heap.size cnt D ∧ MapF D (usedK ds k)) ∧ cnt ≤ k * 1048576 ∧ Hid (∀ i j, j < i → i < k → ¬ colP (dn ds j) (dn ds i)) ∧ Below w.heap.size w wr) (fun i _ => n - (intOf i).toNat)
  case atStart => exact ⟨0, 0, _, Nat.zero_le _, rfl, Lib.hid ⟨World.ownsMap_made _ _ _ _, mapF_nil⟩, Nat.zero_le _, Lib.hid (fun i j _ hi => absurd hi (by omega)), (Below.refl _ _).alloc (Nat.le_refl _) _⟩
  case round =>
    clear hmm
    obtain ⟨k, cnt, D, hk, rfl, HM, hcnt, HC, hb⟩ := hrel
    have HBW := Lib.hid hb
    by_cases hlt : k < n
    case neg =>
      have hkn : k = n := by omega
      have HE : Hid (apartP ds ∧ MapF D (usedK ds ds.length)) := Lib.hid ⟨fun i j hji hi => HC.out i j hji (by have := HLD.out; omega), by rw [HLD.out, ← hkn]; exact HM.out.2⟩
      clear hkn
      go_wp2
      go_ret2
      exact ⟨hb, .inr ⟨HE.out.1, w.heap.size, cnt, D, rfl, Nat.le_refl _, HM.out.1, HE.out.2⟩⟩
    case pos =>
    have hkl : k < ys.length := by have := HT.out.len; omega
    have HKD : Hid (k < ds.length) := Lib.hid (by have := HLD.out; omega)
    obtain ⟨y, hke⟩ : ∃ y, ys[k]'hkl = y := ⟨_, rfl⟩
    have HDK := Lib.hid (dn_at HD.out hkl hke)
    have hyat : LtAt w y := by rw [← hke]; exact HT.out.at_ _ (List.getElem_mem hkl)
    obtain ⟨hg, f0, f1, f2, f3, f4⟩ := (HT.out.moved hb).rd.ltc hkl
    rw [Nat.zero_add, hke] at f0 f1 f2 f3 f4
    have HGD := Lib.hid (HG.out k HKD.out)
    have HBK : Hid (bitsV y.q0 y.q1 = (bitN (dn ds k) : Int)) := Lib.hid (by rw [HDK.out]; exact bitN_eq (d := y.d) (by have := HGD.out.blk; rw [HDK.out] at this; exact this))
    have HBL := Lib.hid (bitN_lt HGD.out.blk)
    have HZ : Hid (y.zs = (dn ds k).zs) := Lib.hid (by rw [HDK.out]; rfl)
    have hblk : blkP y.q0 y.q1 := by have := HGD.out.blk; rw [HDK.out] at this; exact this
    obtain ⟨hyn, hys, hyr⟩ := hyat
    have HYN := Lib.hid hyn; have HYR := Lib.hid hyr
    have CB : Hid (∀ W, Calls Try.prog 159 #[.agg #[.int .i64 y.q0, .int .i64 y.q1]] W (RetP (.int .i64 (bitN (dn ds k) : Int)) W)) := Lib.hid (fun W => by rw [← HBK.out]; exact implBits y.q0 y.q1 W hblk)
    obtain ⟨b, hbb⟩ : ∃ b, bitN (dn ds k) = b := ⟨_, rfl⟩
    rw [hbb] at CB HBL
    have HBB := Lib.hid hbb
    obtain ⟨p0, p1, A, m, c, zs, q0, q1⟩ := y
    simp only at f0 f1 f2 f3 f4 hyn hys hyr HYN HYR HZ CB
    have HBX := Lib.hid (hb.alloc hb.size (Obj.cells #[.int .i64 p0, .int .i64 p1, .slice A m c, .int .i64 q0, .int .i64 q1] 120))
    have HBZ := Lib.hid ((Below.refl wr.heap.size wr).alloc (Nat.le_refl _) (Obj.cells #[.int .i64 p0, .int .i64 p1, .slice A m c, .int .i64 q0, .int .i64 q1] 120))
    clear hb hke hyn hyr hbb hblk
    go_wp2_with fail
    obtain ⟨X, hX⟩ : ∃ X, wr.alloc (Obj.cells #[.int .i64 p0, .int .i64 p1, .slice A m c, .int .i64 q0, .int .i64 q1] 120) = X := ⟨_, rfl⟩
    have hx2 : X.cell? ⟨wr.heap.size, 2, none⟩ = some (.slice A m c) := by rw [← hX]; simp [go_sem]
    have hzx : wr.heap.size < X.heap.size := by rw [← hX]; simp
    rw [hX] at HBX HBZ ⊢
    clear hX f0 f1 f2 f3 f4
    refine (CB.out _).mono ?_
    rintro e w3 ⟨rfl, hb3⟩
    have HB3 := Lib.hid (HBX.out.trans (hb3.mono HBX.out.size))
    have HM3 := Lib.hid (HM.out.1.below (HBZ.out.trans (hb3.mono HBZ.out.size)))
    have hx3 := (hb3.cell (p := ⟨wr.heap.size, 2, none⟩) hzx).trans hx2
    clear hb3 hx2 hzx
    go_wp2
    clear hx3
    go_loopw [24] (fun i wr => ∃ (j cn : Nat) (D : Du), j ≤ m ∧ i = .int .i64 j ∧ Hid (OwnM wr w.heap.size cn D ∧ MapF D (partK ds k j)) ∧ cn ≤ k * 1048576 + j ∧ Hid (∀ t, t < k → ∀ x ∈ zs.take j, x ∈ (dn ds t).zs → bitN (dn ds t) &&& b = 0) ∧ Below w.heap.size w wr) (fun i _ => m - (intOf i).toNat)
    case atStart => exact ⟨0, cnt, D, Nat.zero_le _, rfl, Lib.hid ⟨HM3.out, fun x => by rw [part_zero]; exact HM.out.2 x⟩, Nat.le_trans hcnt (Nat.le_add_right _ _), Lib.hid (fun t _ x hx => by simp at hx), HB3.out⟩
    case round =>
      obtain ⟨j, cn, D2, hj, rfl, HM2, hcn, HX, hb⟩ := hrel
      have HR2 := Lib.hid (HYR.out.moved hb)
      have HBJ := Lib.hid hb
      by_cases hjl : j < m
      case neg =>
        have hjm : j = m := by omega
        have HC2 : Hid (∀ i j, j < i → i < k + 1 → ¬ colP (dn ds j) (dn ds i)) := Lib.hid (fun i t hti hi => by
          by_cases h : i < k
          · exact HC.out i t hti h
          · obtain rfl : i = k := by omega
            intro hc
            obtain ⟨x, hx1, hx2⟩ := uses_iff.1 hc.1
            refine hc.2 ?_
            rw [HBB.out]
            refine HX.out t hti x ?_ hx1
            rw [List.take_of_length_le (by have := HYN.out; omega), HZ.out]
            exact hx2)
        have HMU : Hid (MapF D2 (usedK ds (k + 1))) := Lib.hid (fun x => by
          have h1 := HM2.out.2 x
          rw [hjm, ← HYN.out, HZ.out, part_all] at h1
          exact h1)
        have hcn2 : cn ≤ (k + 1) * 1048576 := by omega
        clear hjm hb
        go_wp2
        go_roundw
        case rel => exact ⟨k + 1, cn, D2, by omega, by go_num, Lib.hid ⟨HM2.out.1, HMU.out⟩, hcn2, HC2, HBJ.out⟩
        case measure => simp [intOf]; omega
      case pos =>
      have hjz : j < zs.length := by have := HYN.out; omega
      obtain ⟨ad, hA, hbl, hcell⟩ := ints_at HR2.out hjz
      subst hA
      obtain ⟨x, hx⟩ : ∃ x, zs[j]'hjz = x := ⟨_, rfl⟩
      rw [hx] at hcell
      have hjd : j < (dn ds k).zs.length := by rw [← HZ.out]; exact hjz
      have HXD : Hid ((dn ds k).zs[j]'hjd = x) := Lib.hid (by rw [← hx]; congr 1; exact HZ.out.symm)
      have hxin : x ∈ (dn ds k).zs := by rw [← HXD.out]; exact List.getElem_mem hjd
      have hxf := HGD.out.fib x hxin
      have hkey : keyOf Try.prog 3 (.int .i64 x) = some (.int .i64 x) := keyOf_int_mk Try.underlying3 (WalkArith.wf_i64 (by omega))
      have HKEY := Lib.hid hkey
      have hpn : partK ds k j x = usedK ds k x := by rw [← HXD.out]; exact part_new hjd HGD.out.nd
      have hps : partK ds k (j + 1) x = usedK ds k x ||| b := by rw [← HXD.out, ← HBB.out]; exact part_same hjd HGD.out.nd
      have hpo : ∀ y, y ≠ x → partK ds k (j + 1) y = partK ds k j y := fun y hy => part_other hjd (by rw [HXD.out]; exact hy)
      have hul : usedK ds k x < 2 ^ 24 := used_lt (fun t ht => (HG.out t (by have := HKD.out; omega)).blk)
      have hua := used_and (ds := ds) (x := x) (b := b) (k := k)
      have HPS := Lib.hid hps; have HPO := Lib.hid hpo
      obtain ⟨u, hu⟩ : ∃ u, usedK ds k x = u := ⟨_, rfl⟩
      rw [hu] at hpn hul hua HPS
      have HVAL : Hid (∀ c : Int, D2.atKey (.int .i64 x) (.lit (.int .i64 0)) = .lit (.int .i64 c) → c = (u : Int)) := Lib.hid (fun c hat => by rw [HM2.out.2.val hat, hpn])
      have hand := and_i64n u b hul HBL.out
      have hor := or_i64_ u b (by omega) (by have := HBL.out; omega)
      have hol : u ||| b < 2 ^ 24 := Nat.or_lt_two_pow hul HBL.out
      obtain ⟨v, hv⟩ : ∃ v, u &&& b = v := ⟨_, rfl⟩
      obtain ⟨o, ho⟩ : ∃ o, u ||| b = o := ⟨_, rfl⟩
      rw [hv] at hand hua; rw [ho] at hor hol HPS
      have HUA := Lib.hid hua
      have hown := HM2.out.1
      have hwo : (Lit.int .i64 (o : Int)).wf = true := WalkArith.wf_i64 (by omega)
      have HXX2 := Lib.hid hx
      have HIN := Lib.hid hxin
      clear HXD hx hjd hxin hpn hps hpo hul hua hu hv ho hkey hb
      by_cases hv0 : v = 0
      case neg =>
        have HE : Hid (¬ apartP ds) := Lib.hid (fun hap => by
          apply hv0
          refine HUA.out.2 (fun t ht hxt => ?_)
          have hnc := hap k t ht HKD.out
          refine Classical.byContradiction fun h0 => hnc ⟨uses_iff.2 ⟨x, hxt, HIN.out⟩, by rw [HBB.out]; exact h0⟩)
        have hvi : (v : Int) ≠ 0 := by omega
        have hvb : ((v : Int) != 0) = true := by simpa using hvi
        have hvc : ((v : Int) == 0) = false := by simpa using hvi
        clear hv0 hvi
        go_wp2_with (first
          | (at_lookup; refine wpList_lookup_own_int _ rfl _ _ 172 rfl 3 3 .i64 law_int Try.underlying172 Try.underlying3 (zero_int _) w.heap.size cn _ rfl hown _ _ rfl HKEY.out ?_; intro c hat hwc; obtain rfl := HVAL.out c hat; clear hat hwc)
          | go_in)
        go_ret2
        exact ⟨HBJ.out, .inl ⟨HE.out, rfl⟩⟩
      case pos =>
      subst hv0
      have HX2 : Hid (∀ t, t < k → ∀ x ∈ zs.take (j + 1), x ∈ (dn ds t).zs → bitN (dn ds t) &&& b = 0) := Lib.hid (fun t ht x' hx' hxt => by
        rw [List.take_succ_eq_append_getElem hjz, HXX2.out] at hx'
        rcases List.mem_append.1 hx' with h | h
        · exact HX.out t ht x' h hxt
        · rw [List.mem_singleton.1 h] at hxt
          exact HUA.out.1 rfl t ht hxt)
      have HPUT : Hid (MapF (D2.put (.int .i64 x) (.lit (.int .i64 (o : Int)))) (partK ds k (j + 1))) := Lib.hid (HM2.out.2.put hown.isMap x o HPS.out HPO.out)
      go_wp2_with (first
        | (at_lookup; refine wpList_lookup_own_int _ rfl _ _ 172 rfl 3 3 .i64 law_int Try.underlying172 Try.underlying3 (zero_int _) w.heap.size cn _ rfl hown _ _ rfl HKEY.out ?_; intro c hat hwc; obtain rfl := HVAL.out c hat; clear hat hwc)
        | (at_mapUpdate; refine wpList_mapUpdate_own _ rfl _ _ _ 172 rfl 3 3 law_int Try.underlying172 _ w.heap.size cn _ rfl hown (by unfold maxLen; omega) _ _ _ rfl rfl HKEY.out _ [] (plainElem_int Try.underlying3 hwo) ?_; intro w1 hown1 hgrow1)
        | go_in)
      have HB1 := Lib.hid (HBJ.out.grown hgrow1 HBJ.out.size (fun q hq => by cases hq; exact Nat.le_refl _))
      have HOW := Lib.hid hown1
      clear hown1 hgrow1 hown
      go_roundw
      case rel => exact ⟨j + 1, cn + 1, _, by omega, by go_num, Lib.hid ⟨HOW.out, HPUT.out⟩, by omega, HX2, HB1.out⟩
      case measure => simp [intOf]; omega
end Go.Proofs.Ytkpendpjdemknaa

namespace Go.Proofs.Ytkpendpjdemknaa
open Go.ChangeShapes Go.WideShapes Go.ChangeAt Go.RowKit Go.Maps

def lastI (ds : List LtD) : Nat → Int
  | 0 => 0
  | k + 1 => (dn ds k).p0
set_option maxRecDepth 100000 in
set_option maxHeartbeats 8000000 in
theorem implVP {g1 g2 g3 n1 n2 n3 c1 c2 B : Nat} {ss : List ByteArray} {fs : List Q4} {ys : List Lt} {ds : List LtD} {w : World} (h : NetAt g1 g2 n1 n2 c1 c2 ss fs w) (hT : Lts B g3 n3 ys w) (hd : ys.map Lt.d = ds) (hs : n3 ≤ 1048576) :
    Calls Try.prog 73 #[.agg #[.slice (some ⟨g1, 0, none⟩) n1 c1, .slice (some ⟨g2, 0, none⟩) n2 c2, .slice (some ⟨g3, 0, none⟩) n3 n3]] w (RetP (.bool (pb (planP ss fs ds))) w) := by
  have HNT := Lib.hid h; have HT := Lib.hid hT; have HD := Lib.hid hd
  have HLD : Hid (ds.length = n3) := Lib.hid (by rw [← hd, List.length_map]; exact hT.len)
  obtain ⟨r, hrr⟩ : ∃ r, pb (planP ss fs ds) = r := ⟨_, rfl⟩
  rw [hrr]
  have HRR := Lib.hid hrr
  clear h hT hd hrr
  go_enter Try.func73, Try.ntmps73
  go_wp2_with fail
  obtain ⟨W0, hW0⟩ : ∃ W0, w.alloc (Obj.cells #[.slice (some ⟨g1, 0, none⟩) n1 c1, .slice (some ⟨g2, 0, none⟩) n2 c2, .slice (some ⟨g3, 0, none⟩) n3 n3] 46) = W0 := ⟨_, rfl⟩
  have hb0 : Below w.heap.size w W0 := by rw [← hW0]; exact (Below.refl _ _).alloc (Nat.le_refl _) _
  have hk0 : W0.cell? ⟨w.heap.size, 0, none⟩ = some (.slice (some ⟨g1, 0, none⟩) n1 c1) := by rw [← hW0]; simp [go_sem]
  have hk1 : W0.cell? ⟨w.heap.size, 1, none⟩ = some (.slice (some ⟨g2, 0, none⟩) n2 c2) := by rw [← hW0]; simp [go_sem]
  have hk2 : W0.cell? ⟨w.heap.size, 2, none⟩ = some (.slice (some ⟨g3, 0, none⟩) n3 n3) := by rw [← hW0]; simp [go_sem]
  have hz0 : w.heap.size < W0.heap.size := by rw [← hW0]; simp
  have HB0 := Lib.hid hb0; have HK0 := Lib.hid hk0; have HK1 := Lib.hid hk1; have HK2 := Lib.hid hk2; have HZB := Lib.hid hz0
  rw [hW0]
  clear hW0 hb0 hk0 hk1 hk2 hz0
  refine (implNet_ (HNT.out.moved HB0.out)).mono ?_
  rintro e w1 ⟨rfl, hb1⟩
  have HB1 := Lib.hid hb1
  have HB01 := Lib.hid (HB0.out.trans (hb1.mono HB0.out.size))
  have k2 := (hb1.cell (p := ⟨w.heap.size, 2, none⟩) HZB.out).trans HK2.out
  clear hb1
  by_cases hv : netP ss fs
  case neg =>
    have HE : Hid (false = r) := Lib.hid (by rw [← HRR.out]; exact (plan_net hv).symm)
    rw [pb_false hv]
    clear hv
    go_wp2
    go_ret
    exact ⟨retb HE.out, HB01.out⟩
  case pos =>
  have HV := Lib.hid hv
  rw [pb_true hv]
  clear hv
  by_cases hl : n3 ≤ 12
  case neg =>
    have HE : Hid (false = r) := Lib.hid (by rw [← HRR.out]; exact (plan_len (by have := HLD.out; omega)).symm)
    have hl2 : 12 < (n3 : Int) := by omega
    clear hl
    go_wp2
    go_ret
    exact ⟨retb HE.out, HB01.out⟩
  case pos =>
  have HL12 := Lib.hid hl
  have hl2 : (n3 : Int) ≤ 12 := by omega
  clear hl
  go_wp2
  clear k2
  go_loopw [3, 21] (fun la i wr => ∃ (k : Nat) (z : Int), k ≤ n3 ∧ i = .int .i64 k ∧ la = .int .i64 z ∧ Hid (z = lastI ds k) ∧ Hid (∀ i, i < k → stepP ss fs ds i) ∧ Below W0.heap.size W0 wr) (fun _ i _ => n3 - (intOf i).toNat)
  case atStart => exact ⟨0, 0, Nat.zero_le _, rfl, rfl, Lib.hid rfl, Lib.hid (fun i hi => absurd hi (by omega)), HB1.out⟩
  case round =>
    obtain ⟨k, z, hk, rfl, rfl, HZ, HA, hb⟩ := hrel
    have HBW := Lib.hid (HB0.out.trans (hb.mono HB0.out.size))
    have HBR := Lib.hid hb
    have hzw : w.heap.size < wr.heap.size := Nat.lt_of_lt_of_le HZB.out hb.size
    by_cases hlt : k < n3
    case neg =>
      have hkn : k = n3 := by omega
      have k2 := (hb.cell (p := ⟨w.heap.size, 2, none⟩) HZB.out).trans HK2.out
      have CO := Lib.hid (occupied_ (HT.out.moved HBW.out) HD.out HL12.out (fun t ht => lightP_good (HA.out t (by have := HLD.out; omega)).1 HV.out))
      have HAL : Hid (∀ i, i < ds.length → stepP ss fs ds i) := Lib.hid (fun i hi => HA.out i (by have := HLD.out; omega))
      have HLL : Hid (ds.length ≤ 12) := Lib.hid (by have := HLD.out; have := HL12.out; omega)
      clear hkn hb
      go_wp2_with fail
      refine CO.out.mono ?_
      rintro e w3 ⟨hb3, h3⟩
      have HB3 := Lib.hid (HBW.out.trans (hb3.mono HBW.out.size))
      clear hb3 k2
      rcases h3 with ⟨hap, rfl⟩ | ⟨hap, B2, n2', D, rfl, _, _, _⟩
      · have HE : Hid (false = r) := Lib.hid (by rw [← HRR.out]; exact (pb_false (fun h => hap h.2.2.2)).symm)
        clear hap
        go_wp2
        go_ret
        exact ⟨retb HE.out, HB3.out⟩
      · have HE : Hid (true = r) := Lib.hid (by rw [← HRR.out]; exact (pb_true ⟨HV.out, HLL.out, HAL.out, hap⟩).symm)
        clear hap
        go_wp2
        go_ret
        exact ⟨retb HE.out, HB3.out⟩
    case pos =>
    have hkl : k < ys.length := by have := HT.out.len; omega
    have HKD : Hid (k < ds.length) := Lib.hid (by have := HLD.out; omega)
    obtain ⟨y, hke⟩ : ∃ y, ys[k]'hkl = y := ⟨_, rfl⟩
    have HDK := Lib.hid (dn_at HD.out hkl hke)
    have hyat : LtAt w y := by rw [← hke]; exact HT.out.at_ _ (List.getElem_mem hkl)
    have HYA := Lib.hid hyat
    obtain ⟨hg, f0, f1, f2, f3, f4⟩ := (HT.out.moved HBW.out).rd.ltc hkl
    rw [Nat.zero_add, hke] at f0 f1 f2 f3 f4
    have k0 := (hb.cell (p := ⟨w.heap.size, 0, none⟩) HZB.out).trans HK0.out
    have k1 := (hb.cell (p := ⟨w.heap.size, 1, none⟩) HZB.out).trans HK1.out
    have HBZ := Lib.hid ((Below.refl wr.heap.size wr).alloc (Nat.le_refl _) (Obj.cells #[.int .i64 y.p0, .int .i64 y.p1, .slice y.A y.n y.c, .int .i64 y.q0, .int .i64 y.q1] 120))
    have HBX := Lib.hid (HBW.out.trans (HBZ.out.mono HBW.out.size))
    have CL := Lib.hid (isLight_ (HNT.out.moved HBX.out) HV.out y (hyat.moved HBX.out))
    have HS : Hid (stepP ss fs ds k ↔ lightP ss fs y.d ∧ z < y.p0) := Lib.hid (by
      unfold stepP
      rw [HDK.out, HZ.out]
      cases k with
      | zero =>
        constructor
        · intro h; exact ⟨h.1, by have := h.1.1.1; show (0 : Int) < _; have e : y.d.p0 = y.p0 := rfl; omega⟩
        · intro h; exact ⟨h.1, fun h0 => absurd h0 (by omega)⟩
      | succ m =>
        constructor
        · intro h; exact ⟨h.1, h.2 (by omega)⟩
        · intro h; exact ⟨h.1, fun _ => h.2⟩)
    have hne := Nat.ne_of_lt hzw
    clear hb hke hyat hkl
    by_cases hid : y.p0 ≤ z
    · have HE : Hid (false = r) := Lib.hid (by rw [← HRR.out]; exact (plan_step HKD.out (fun h => by have := (HS.out.1 h).2; omega)).symm)
      clear CL
      go_wp2
      go_ret
      exact ⟨retb HE.out, HBX.out⟩
    have hid2 : z < y.p0 := by omega
    have hid3 : decide (y.p0 ≤ z) = false := decide_eq_false hid
    clear hid
    obtain ⟨b1, hb1⟩ : ∃ b, pb (lightP ss fs y.d) = b := ⟨_, rfl⟩
    rw [hb1] at CL
    have HLB : Hid (b1 = true ↔ lightP ss fs y.d) := Lib.hid (by
      by_cases hp : lightP ss fs y.d
      · rw [pb_true hp] at hb1; exact ⟨fun _ => hp, fun _ => hb1.symm⟩
      · rw [pb_false hp] at hb1; exact ⟨fun h => by rw [← hb1] at h; exact absurd h (by decide), fun h => absurd h hp⟩)
    clear hb1
    go_wp2_with fail
    obtain ⟨X, hX⟩ : ∃ X, wr.alloc (Obj.cells #[.int .i64 y.p0, .int .i64 y.p1, .slice y.A y.n y.c, .int .i64 y.q0, .int .i64 y.q1] 120) = X := ⟨_, rfl⟩
    have hx0 : X.cell? ⟨wr.heap.size, 0, none⟩ = some (.int .i64 y.p0) := by rw [← hX]; simp [go_sem]
    have hzx : wr.heap.size < X.heap.size := by rw [← hX]; simp
    rw [hX] at CL HBZ HBX ⊢
    clear hX f0 f1 f2 f3 f4 k0 k1
    refine CL.out.mono ?_
    rintro e w3 ⟨rfl, hb3⟩
    have HB3 := Lib.hid (HBX.out.trans (hb3.mono HBX.out.size))
    have HB3R := Lib.hid (HBR.out.trans ((HBZ.out.trans (hb3.mono HBZ.out.size)).mono HBR.out.size))
    have l0 := (hb3.cell (p := ⟨wr.heap.size, 0, none⟩) hzx).trans hx0
    clear hb3 hx0 hzx
    cases b1
    case false =>
      have HE : Hid (false = r) := Lib.hid (by rw [← HRR.out]; exact (plan_step HKD.out (fun h => absurd (HLB.out.2 (HS.out.1 h).1) (by decide))).symm)
      go_wp2
      go_ret
      exact ⟨retb HE.out, HB3.out⟩
    case true =>
    have HA2 : Hid (∀ i, i < k + 1 → stepP ss fs ds i) := Lib.hid (fun i hi => by
      by_cases h : i < k
      · exact HA.out i h
      · obtain rfl : i = k := by omega
        exact HS.out.2 ⟨HLB.out.1 rfl, hid2⟩)
    have HZ2 : Hid (y.p0 = lastI ds (k + 1)) := Lib.hid (by show _ = (dn ds k).p0; rw [HDK.out]; rfl)
    go_wp2
    go_roundw
    case rel => exact ⟨k + 1, y.p0, by omega, by go_num, rfl, HZ2, HA2, HB3R.out⟩
    case measure => simp [intOf]; omega
end Go.Proofs.Ytkpendpjdemknaa

namespace Go.Proofs.Ytkpendpjdemknaa
open Go.ChangeShapes Go.WideShapes Go.ChangeAt Go.RowKit Go.Maps

/-- the index of the first light with an Id. -/
def idxN (ds : List LtD) (id : Int) : Option Nat := ds.findIdx? fun d => decide (d.p0 = id)
theorem idx_at {ds : List LtD} {id : Int} {k : Nat} (hk : k < ds.length) (h : (dn ds k).p0 = id) (hn : ∀ i, i < k → (dn ds i).p0 ≠ id) : idxN ds id = some k := by
  unfold idxN
  rw [List.findIdx?_eq_some_iff_getElem]
  refine ⟨hk, by rw [← dn_eq hk]; simpa using h, fun j hj => ?_⟩
  rw [← dn_eq (by omega)]
  simpa using hn j hj
theorem idx_none {ds : List LtD} {id : Int} (hn : ∀ i, i < ds.length → (dn ds i).p0 ≠ id) : idxN ds id = none := by
  unfold idxN
  rw [List.findIdx?_eq_none_iff]
  intro d hd
  obtain ⟨i, hi, rfl⟩ := List.mem_iff_getElem.1 hd
  have := hn i hi
  rw [dn_eq hi] at this
  simpa using this
theorem idx_lt {ds : List LtD} {id : Int} {k : Nat} (h : idxN ds id = some k) : k < ds.length := by
  unfold idxN at h
  rw [List.findIdx?_eq_some_iff_getElem] at h
  exact h.1
def idxI (ds : List LtD) (id : Int) : Int := match idxN ds id with | some k => (k : Int) | none => -1
noncomputable def lnB (ss : List ByteArray) (fs : List Q4) (ds : List LtD) (id : Int) : Bool := pb (planP ss fs ds) && (idxN ds id).isSome
noncomputable def lnI (ss : List ByteArray) (fs : List Q4) (ds : List LtD) (id : Int) : Int := if lnB ss fs ds id then idxI ds id else 0
noncomputable def lnR (ss : List ByteArray) (fs : List Q4) (ds : List LtD) (id : Int) : Value := .tuple #[.int .i64 (lnI ss fs ds id), .bool (lnB ss fs ds id)]
theorem ln_bad {ss : List ByteArray} {fs : List Q4} {ds : List LtD} {id : Int} (h : pb (planP ss fs ds) = false) : (.tuple #[.int .i64 0, .bool false] : Value) = lnR ss fs ds id := by unfold lnR lnI lnB; rw [h]; rfl
theorem ln_none {ss : List ByteArray} {fs : List Q4} {ds : List LtD} {id : Int} (h : idxN ds id = none) : (.tuple #[.int .i64 0, .bool false] : Value) = lnR ss fs ds id := by unfold lnR lnI lnB; rw [h]; simp
theorem ln_some {ss : List ByteArray} {fs : List Q4} {ds : List LtD} {id : Int} {k : Nat} (hp : pb (planP ss fs ds) = true) (h : idxN ds id = some k) : (.tuple #[.int .i64 (k : Int), .bool true] : Value) = lnR ss fs ds id := by unfold lnR lnI lnB idxI; rw [h, hp]; rfl
theorem ret_tup {a b : Value} (h : a = b) : Ending.returned a = .returned b := by rw [h]

set_option maxRecDepth 100000 in
set_option maxHeartbeats 4000000 in
theorem l9Find_ {g1 g2 g3 n1 n2 n3 c1 c2 B : Nat} {ss : List ByteArray} {fs : List Q4} {ys : List Lt} {ds : List LtD} {w : World} (h : NetAt g1 g2 n1 n2 c1 c2 ss fs w) (hT : Lts B g3 n3 ys w) (hd : ys.map Lt.d = ds) (hs : n3 ≤ 1048576) (id : Int) :
    Calls Try.prog 82 #[.agg #[.slice (some ⟨g1, 0, none⟩) n1 c1, .slice (some ⟨g2, 0, none⟩) n2 c2, .slice (some ⟨g3, 0, none⟩) n3 n3], .int .i64 id] w (RetP (.int .i64 (idxI ds id)) w) := by
  have HNT := Lib.hid h; have HT := Lib.hid hT; have HD := Lib.hid hd
  have HLD : Hid (ds.length = n3) := Lib.hid (by rw [← hd, List.length_map]; exact hT.len)
  clear h hT hd
  obtain ⟨r, hrr⟩ : ∃ r, idxI ds id = r := ⟨_, rfl⟩
  rw [hrr]
  have HRR := Lib.hid hrr
  clear hrr
  go_enter Try.func82, Try.ntmps82
  go_wp2
  obtain ⟨W0, hW0⟩ : ∃ W0, w.alloc (Obj.cells #[.slice (some ⟨g1, 0, none⟩) n1 c1, .slice (some ⟨g2, 0, none⟩) n2 c2, .slice (some ⟨g3, 0, none⟩) n3 n3] 46) = W0 := ⟨_, rfl⟩
  have hb0 : Below w.heap.size w W0 := by rw [← hW0]; exact (Below.refl _ _).alloc (Nat.le_refl _) _
  have hk0 : W0.cell? ⟨w.heap.size, 0, none⟩ = some (.slice (some ⟨g1, 0, none⟩) n1 c1) := by rw [← hW0]; simp [go_sem]
  have hk1 : W0.cell? ⟨w.heap.size, 1, none⟩ = some (.slice (some ⟨g2, 0, none⟩) n2 c2) := by rw [← hW0]; simp [go_sem]
  have hk2 : W0.cell? ⟨w.heap.size, 2, none⟩ = some (.slice (some ⟨g3, 0, none⟩) n3 n3) := by rw [← hW0]; simp [go_sem]
  have hz0 : w.heap.size < W0.heap.size := by rw [← hW0]; simp
  have HB0 := Lib.hid hb0; have HK0 := Lib.hid hk0; have HK1 := Lib.hid hk1; have HK2 := Lib.hid hk2; have HZB := Lib.hid hz0
  rw [hW0]
  clear hW0 hb0 hk0 hk1 hk2 hz0
  go_loopw [5] (fun i wr => ∃ k : Nat, k ≤ n3 ∧ i = .int .i64 k ∧ Hid (∀ i, i < k → (dn ds i).p0 ≠ id) ∧ Below W0.heap.size W0 wr) (fun i _ => n3 - (intOf i).toNat)
  case atStart => exact ⟨0, Nat.zero_le _, rfl, Lib.hid (fun i hi => absurd hi (by omega)), Below.refl _ _⟩
  case round =>
    obtain ⟨k, hk, rfl, HA, hb⟩ := hrel
    have HBW := Lib.hid (HB0.out.trans (hb.mono HB0.out.size))
    have HBR := Lib.hid hb
    have k2 := (hb.cell (p := ⟨w.heap.size, 2, none⟩) HZB.out).trans HK2.out
    have hzw : w.heap.size < wr.heap.size := Nat.lt_of_lt_of_le HZB.out hb.size
    by_cases hlt : k < n3
    case neg =>
      have HE : Hid (-1 = r) := Lib.hid (by rw [← HRR.out]; unfold idxI; rw [idx_none (fun i hi => HA.out i (by have := HLD.out; omega))])
      clear hb
      go_wp2
      go_ret
      exact ⟨reti HE.out, HBW.out⟩
    case pos =>
    have hkl : k < ys.length := by have := HT.out.len; omega
    have HKD : Hid (k < ds.length) := Lib.hid (by have := HLD.out; omega)
    obtain ⟨y, hke⟩ : ∃ y, ys[k]'hkl = y := ⟨_, rfl⟩
    have HDK := Lib.hid (dn_at HD.out hkl hke)
    obtain ⟨hg, f0, f1, f2, f3, f4⟩ := (HT.out.moved HBW.out).rd.ltc hkl
    rw [Nat.zero_add, hke] at f0 f1 f2 f3 f4
    clear f1 f2 f3 f4 hke hkl hb
    by_cases he : y.p0 = id
    · have HE : Hid ((k : Int) = r) := Lib.hid (by rw [← HRR.out]; unfold idxI; rw [idx_at HKD.out (by rw [HDK.out]; exact he) HA.out])
      have he2 : (y.p0 == id) = true := by simpa using he
      clear he
      go_wp2
      go_ret
      exact ⟨reti HE.out, HBW.out⟩
    · have he2 : (y.p0 == id) = false := by simpa using he
      have HA2 : Hid (∀ i, i < k + 1 → (dn ds i).p0 ≠ id) := Lib.hid (fun i hi => by
        by_cases h : i < k
        · exact HA.out i h
        · obtain rfl : i = k := by omega
          rw [HDK.out]; exact he)
      clear he
      go_wp2
      go_roundw
      case rel => exact ⟨k + 1, by omega, by go_num, HA2, HBR.out⟩
      case measure => simp [intOf]; omega

set_option maxRecDepth 100000 in
set_option maxHeartbeats 4000000 in
theorem implLN {g1 g2 g3 n1 n2 n3 c1 c2 B : Nat} {ss : List ByteArray} {fs : List Q4} {ys : List Lt} {ds : List LtD} {w : World} (h : NetAt g1 g2 n1 n2 c1 c2 ss fs w) (hT : Lts B g3 n3 ys w) (hd : ys.map Lt.d = ds) (hs : n3 ≤ 1048576) (id : Int) :
    Calls Try.prog 87 #[.agg #[.slice (some ⟨g1, 0, none⟩) n1 c1, .slice (some ⟨g2, 0, none⟩) n2 c2, .slice (some ⟨g3, 0, none⟩) n3 n3], .int .i64 id] w (RetP (lnR ss fs ds id) w) := by
  have HNT := Lib.hid h; have HT := Lib.hid hT; have HD := Lib.hid hd
  have HLD : Hid (ds.length = n3) := Lib.hid (by rw [← hd, List.length_map]; exact hT.len)
  clear h hT hd
  obtain ⟨R, hRR⟩ : ∃ R, lnR ss fs ds id = R := ⟨_, rfl⟩
  rw [hRR]
  have HRR := Lib.hid hRR
  clear hRR
  go_enter Try.func87, Try.ntmps87
  go_wp2_with fail
  obtain ⟨W0, hW0⟩ : ∃ W0, w.alloc (Obj.cells #[.slice (some ⟨g1, 0, none⟩) n1 c1, .slice (some ⟨g2, 0, none⟩) n2 c2, .slice (some ⟨g3, 0, none⟩) n3 n3] 46) = W0 := ⟨_, rfl⟩
  have hb0 : Below w.heap.size w W0 := by rw [← hW0]; exact (Below.refl _ _).alloc (Nat.le_refl _) _
  have hk0 : W0.cell? ⟨w.heap.size, 0, none⟩ = some (.slice (some ⟨g1, 0, none⟩) n1 c1) := by rw [← hW0]; simp [go_sem]
  have hk1 : W0.cell? ⟨w.heap.size, 1, none⟩ = some (.slice (some ⟨g2, 0, none⟩) n2 c2) := by rw [← hW0]; simp [go_sem]
  have hk2 : W0.cell? ⟨w.heap.size, 2, none⟩ = some (.slice (some ⟨g3, 0, none⟩) n3 n3) := by rw [← hW0]; simp [go_sem]
  have hz0 : w.heap.size < W0.heap.size := by rw [← hW0]; simp
  have HB0 := Lib.hid hb0; have HK0 := Lib.hid hk0; have HK1 := Lib.hid hk1; have HK2 := Lib.hid hk2; have HZB := Lib.hid hz0
  rw [hW0]
  clear hW0 hb0 hk0 hk1 hk2 hz0
  have CG := Lib.hid (implVP (HNT.out.moved HB0.out) (HT.out.moved HB0.out) HD.out hs)
  obtain ⟨b, hb⟩ : ∃ b, pb (planP ss fs ds) = b := ⟨_, rfl⟩
  rw [hb] at CG
  have HPB := Lib.hid hb
  clear hb
  refine CG.out.mono ?_
  rintro e w1 ⟨rfl, hb1⟩
  have HB1 := Lib.hid (HB0.out.trans (hb1.mono HB0.out.size))
  have HB1W := Lib.hid hb1
  have k2 := (hb1.cell (p := ⟨w.heap.size, 2, none⟩) HZB.out).trans HK2.out
  clear hb1
  cases b
  case false =>
    have HE : Hid ((.tuple #[.int .i64 0, .bool false] : Value) = R) := Lib.hid (by rw [← HRR.out]; exact ln_bad HPB.out)
    go_wp2
    go_ret2
    exact ⟨ret_tup HE.out, HB1.out⟩
  case true =>
  go_wp2
  clear k2
  go_loopw [14] (fun i wr => ∃ k : Nat, k ≤ n3 ∧ i = .int .i64 k ∧ Hid (∀ i, i < k → (dn ds i).p0 ≠ id) ∧ Below W0.heap.size W0 wr) (fun i _ => n3 - (intOf i).toNat)
  case atStart => exact ⟨0, Nat.zero_le _, rfl, Lib.hid (fun i hi => absurd hi (by omega)), HB1W.out⟩
  case round =>
    obtain ⟨k, hk, rfl, HA, hb⟩ := hrel
    have HBW := Lib.hid (HB0.out.trans (hb.mono HB0.out.size))
    have HBR := Lib.hid hb
    by_cases hlt : k < n3
    case neg =>
      have HE : Hid ((.tuple #[.int .i64 0, .bool false] : Value) = R) := Lib.hid (by rw [← HRR.out]; exact ln_none (idx_none (fun i hi => HA.out i (by have := HLD.out; omega))))
      clear hb
      go_wp2
      go_ret2
      exact ⟨ret_tup HE.out, HBW.out⟩
    case pos =>
    have hkl : k < ys.length := by have := HT.out.len; omega
    have HKD : Hid (k < ds.length) := Lib.hid (by have := HLD.out; omega)
    obtain ⟨y, hke⟩ : ∃ y, ys[k]'hkl = y := ⟨_, rfl⟩
    have HDK := Lib.hid (dn_at HD.out hkl hke)
    obtain ⟨hg, f0, f1, f2, f3, f4⟩ := (HT.out.moved HBW.out).rd.ltc hkl
    rw [Nat.zero_add, hke] at f0 f1 f2 f3 f4
    have HBX := Lib.hid (HBW.out.alloc HBW.out.size (Obj.cells #[.int .i64 y.p0, .int .i64 y.p1, .slice y.A y.n y.c, .int .i64 y.q0, .int .i64 y.q1] 120))
    have HBX2 := Lib.hid (HBR.out.alloc HBR.out.size (Obj.cells #[.int .i64 y.p0, .int .i64 y.p1, .slice y.A y.n y.c, .int .i64 y.q0, .int .i64 y.q1] 120))
    clear hke hkl hb
    by_cases he : y.p0 = id
    · have HE : Hid ((.tuple #[.int .i64 (k : Int), .bool true] : Value) = R) := Lib.hid (by rw [← HRR.out]; exact ln_some HPB.out (idx_at HKD.out (by rw [HDK.out]; exact he) HA.out))
      have he2 : (y.p0 == id) = true := by simpa using he
      clear he
      go_wp2
      go_ret2
      exact ⟨ret_tup HE.out, HBX.out⟩
    · have he2 : (y.p0 == id) = false := by simpa using he
      have HA2 : Hid (∀ i, i < k + 1 → (dn ds i).p0 ≠ id) := Lib.hid (fun i hi => by
        by_cases h : i < k
        · exact HA.out i h
        · obtain rfl : i = k := by omega
          rw [HDK.out]; exact he)
      clear he
      go_wp2
      go_roundw
      case rel => exact ⟨k + 1, by omega, by go_num, HA2, HBX2.out⟩
      case measure => simp [intOf]; omega
end Go.Proofs.Ytkpendpjdemknaa
