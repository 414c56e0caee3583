/- Two routes disjoint of a kind: plain words. No condition but those typed. -/
import Derived.Test.YtkpendpjdemknaaShare
namespace Go.Proofs.Ytkpendpjdemknaa
open Go.ChangeShapes Go.WideShapes Go.ChangeAt Go.RowKit

/-- the groups that a mask meets, as a mask. -/
def grM (gs : List (List Int)) (m : Nat) : Nat → Nat
  | 0 => 0
  | k + 1 => if (mkN (gs.getD k []) &&& m) ≠ 0 then grM gs m k ||| 2 ^ k else grM gs m k
theorem grM_in {gs : List (List Int)} {m k : Nat} (h : (mkN (gs.getD k []) &&& m) ≠ 0) : grM gs m (k + 1) = grM gs m k ||| 2 ^ k := by rw [grM, if_pos h]
theorem grM_out {gs : List (List Int)} {m k : Nat} (h : ¬ (mkN (gs.getD k []) &&& m) ≠ 0) : grM gs m (k + 1) = grM gs m k := by rw [grM, if_neg h]
theorem grM_lt (gs : List (List Int)) (m : Nat) : ∀ n, grM gs m n < 2 ^ n
  | 0 => Nat.one_pos
  | k + 1 => by
    have h0 := grM_lt gs m k
    have h1 : (2 : Nat) ^ k < 2 ^ (k + 1) := Nat.pow_lt_pow_right (by decide) (Nat.lt_succ_self k)
    rw [grM]
    split
    · exact Nat.or_lt_two_pow (Nat.lt_trans h0 h1) h1
    · exact Nat.lt_trans h0 h1
theorem grM_test (gs : List (List Int)) (m i : Nat) : ∀ n, (grM gs m n).testBit i = (decide (i < n) && decide ((mkN (gs.getD i []) &&& m) ≠ 0))
  | 0 => by simp [grM]
  | k + 1 => by
    have ih := grM_test gs m i k
    by_cases hc : (mkN (gs.getD k []) &&& m) ≠ 0
    · rw [grM_in hc, Nat.testBit_or, ih, Nat.testBit_two_pow]
      by_cases hik : k = i
      · subst hik; rw [decide_eq_true hc]; simp
      · by_cases hl : i < k
        · rw [decide_eq_true hl, decide_eq_true (show i < k + 1 by omega), decide_eq_false hik]; simp
        · rw [decide_eq_false hl, decide_eq_false (show ¬ i < k + 1 by omega), decide_eq_false hik]; simp
    · rw [grM_out hc, ih]
      by_cases hik : k = i
      · subst hik; rw [decide_eq_false hc]; simp
      · by_cases hl : i < k
        · rw [decide_eq_true hl, decide_eq_true (show i < k + 1 by omega)]
        · rw [decide_eq_false hl, decide_eq_false (show ¬ i < k + 1 by omega)]
/-- the nodes between the ends. -/
def inn (vs : List Int) : List Int := (vs.reverse.drop 1).take (vs.length - 2)
theorem inn_len (vs : List Int) : (inn vs).length = vs.length - 2 := by
  unfold inn; rw [List.length_take, List.length_drop, List.length_reverse]; omega
theorem mem_inn {vs : List Int} {x : Int} (h : x ∈ inn vs) : x ∈ vs := by
  unfold inn at h
  exact List.mem_reverse.1 (List.mem_of_mem_drop (List.mem_of_mem_take h))
theorem inn_nth {vs : List Int} {i : Nat} (h : i < (inn vs).length) : nth (inn vs) i = nth vs.reverse (i + 1) := by
  rw [inn_len] at h
  unfold nth inn
  rw [List.getD_eq_getElem?_getD, List.getD_eq_getElem?_getD, List.getElem?_take, if_pos h, List.getElem?_drop, Nat.add_comm]
theorem mem_inn_iff {vs : List Int} {x : Int} : x ∈ inn vs ↔ ∃ j, 1 ≤ j ∧ j + 1 < vs.length ∧ nth vs.reverse j = x := by
  constructor
  · intro h
    obtain ⟨i, hi, e⟩ := List.mem_iff_getElem.1 h
    have hl := inn_len vs
    refine ⟨i + 1, by omega, by omega, ?_⟩
    rw [← inn_nth hi, ← nth_eq hi, e]
  · rintro ⟨j, h1, h2, rfl⟩
    have hi : j - 1 < (inn vs).length := by rw [inn_len]; omega
    refine List.mem_iff_getElem.2 ⟨j - 1, hi, ?_⟩
    rw [nth_eq hi, inn_nth hi, show j - 1 + 1 = j by omega]
theorem ad_F {ss : List ByteArray} {fs : List Q4} (hv : netP ss fs) {xs ys : List Int} (hx : ∀ x ∈ xs, 0 ≤ x ∧ x < fs.length) (hy : ∀ x ∈ ys, 0 ≤ x ∧ x < fs.length) : (mkN xs &&& mkN ys = 0) ↔ shB 0 xs ys = false := by
  have h := mask_meet2 (g := xs) (zs := ys) rfl (mem_bd hv rfl hy) (mem_bd hv rfl hx)
  rw [sh_any, h]
  show _ ↔ decide ((mkN xs &&& mkN ys) ≠ 0) = false
  rw [decide_eq_false_iff_not, Decidable.not_not]
theorem ad_G {ss : List ByteArray} {fs : List Q4} (hv : netP ss fs) {xs ys : List Int} (hx : ∀ x ∈ xs, 0 ≤ x ∧ x < fs.length) (hy : ∀ x ∈ ys, 0 ≤ x ∧ x < fs.length) :
    (grM (rgL fs) (mkN xs) (rgL fs).length &&& grM (rgL fs) (mkN ys) (rgL fs).length = 0) ↔ apP fs xs ys := by
  have hq : ∀ k, k < (rgL fs).length → ∀ zs : List Int, (∀ x ∈ zs, 0 ≤ x ∧ x < fs.length) → (zs.any fun f => decide (f ∈ (rgL fs).getD k [])) = decide ((mkN ((rgL fs).getD k []) &&& mkN zs) ≠ 0) := by
    intro k hk zs hz
    have hg : (rgL fs).getD k [] ∈ rgL fs := by rw [List.getD_eq_getElem?_getD, List.getElem?_eq_getElem hk]; exact List.getElem_mem hk
    exact mask_meet2 rfl (mem_bd hv rfl hz) (rgp_bd hv hg)
  rw [ap_iff hv hx]
  unfold bothK
  rw [sel_nil]
  constructor
  · intro h k hk
    have h1 : (grM (rgL fs) (mkN xs) (rgL fs).length &&& grM (rgL fs) (mkN ys) (rgL fs).length).testBit k = false := by rw [h]; exact Nat.zero_testBit k
    rw [Nat.testBit_and, grM_test, grM_test, decide_eq_true hk] at h1
    unfold bothQ
    rw [hq k hk xs hx, hq k hk ys hy]
    simpa using h1
  · intro h
    refine Nat.eq_of_testBit_eq fun k => ?_
    rw [Nat.testBit_and, grM_test, grM_test, Nat.zero_testBit]
    by_cases hk : k < (rgL fs).length
    · have h1 := h k hk
      unfold bothQ at h1
      rw [hq k hk xs hx, hq k hk ys hy] at h1
      rw [decide_eq_true hk, Bool.true_and, Bool.true_and]; exact h1
    · rw [decide_eq_false hk]; rfl
/-- a walk visits no node twice. -/
theorem walkR_nd {fs : List Q4} : ∀ {fl ns vs : List Int}, walkR fs fl ns = some vs → ns.Nodup → vs.Nodup
  | [], ns, vs, h, hn => by rw [walkR] at h; injection h with h; subst h; exact hn
  | x :: r, ns, vs, h, hn => by
    cases hs : stepO fs ns x with
    | none => rw [walkR_none hs] at h; exact absurd h (by simp)
    | some nx =>
      rw [walkR_some hs] at h
      refine walkR_nd h (List.nodup_cons.2 ⟨?_, hn⟩)
      unfold stepO at hs
      split at hs
      · rename_i hc; injection hs with hs; subst hs; exact hc.2.2
      · exact absurd hs (by simp)
theorem walkR_pre {fs : List Q4} : ∀ {fl ns vs : List Int}, walkR fs fl ns = some vs → ∃ p, vs = p ++ ns
  | [], ns, vs, h => by rw [walkR] at h; injection h with h; subst h; exact ⟨[], rfl⟩
  | x :: r, ns, vs, h => by
    cases hs : stepO fs ns x with
    | none => rw [walkR_none hs] at h; exact absurd h (by simp)
    | some nx =>
      rw [walkR_some hs] at h
      obtain ⟨p, hp⟩ := walkR_pre h
      exact ⟨p ++ [nx], by rw [hp]; simp⟩
theorem acr_tw {q : Q4} {x : Int} (h : acrB q x = true) : (x = q.a ∧ acrI q x = q.b) ∨ (x = q.b ∧ acrI q x = q.a) := by
  unfold acrB at h
  unfold acrI
  rcases of_decide_eq_true h with h | h
  · left; rw [if_pos h]; exact ⟨h, rfl⟩
  · by_cases h2 : x = q.a
    · left; rw [if_pos h2]; exact ⟨h2, rfl⟩
    · right; rw [if_neg h2, if_pos h]; exact ⟨h, rfl⟩
theorem walkR_bd {ss : List ByteArray} {fs : List Q4} (hv : netP ss fs) : ∀ {fl ns vs : List Int}, walkR fs fl ns = some vs → (∀ v ∈ ns, 0 ≤ v ∧ v < (ss.length : Int)) → ∀ v ∈ vs, 0 ≤ v ∧ v < (ss.length : Int)
  | [], ns, vs, h, hn => by rw [walkR] at h; injection h with h; subst h; exact hn
  | x :: r, ns, vs, h, hn => by
    cases hs : stepO fs ns x with
    | none => rw [walkR_none hs] at h; exact absurd h (by simp)
    | some nx =>
      rw [walkR_some hs] at h
      refine walkR_bd hv h ?_
      intro v hvm
      rcases List.mem_cons.1 hvm with rfl | hvm
      · unfold stepO at hs
        split at hs
        · rename_i hc
          injection hs with hs
          subst hs
          have hk : x.toNat < fs.length := by have := hc.1; omega
          have hf := (hv.2.2.2 x.toNat hk hk).1
          unfold fibP at hf
          have hq : fibI fs x = fs[x.toNat] := by unfold fibI; rw [List.getD_eq_getElem?_getD, List.getElem?_eq_getElem hk]; rfl
          rw [← hq] at hf
          rcases acr_tw hc.2.1 with ⟨_, e⟩ | ⟨_, e⟩ <;> rw [e] <;> omega
        · exact absurd hs (by simp)
      · exact hn v hvm
/-- the facts of a valid route's nodes: the start first, the end last, none twice, at least two. -/
theorem routeN_facts {ss : List ByteArray} {fs : List Q4} (hv : netP ss fs) {st : Int} {fl vs : List Int} (h : routeN ss.length fs st fl = some vs) :
    vs.Nodup ∧ (∀ v ∈ vs, 0 ≤ v ∧ v < (ss.length : Int)) ∧ vs.length = fl.length + 1 ∧ 1 ≤ fl.length ∧ nth vs.reverse 0 = st ∧ nth vs.reverse fl.length = vs.headD 0 := by
  have hlen := routeN_len h
  unfold routeN at h
  split at h
  · rename_i hc
    have hf : 1 ≤ fl.length := by
      cases fl with
      | nil => exact absurd rfl hc.2
      | cons => simp
    obtain ⟨p, hp⟩ := walkR_pre h
    refine ⟨walkR_nd h (by simp), walkR_bd hv h (by intro v hv9; rw [List.mem_singleton] at hv9; subst hv9; exact hc.1), hlen, hf, ?_, ?_⟩
    · rw [hp]; simp [nth]
    · cases vs with
      | nil => simp at hlen
      | cons a t =>
        rw [List.length_cons] at hlen
        unfold nth
        rw [List.reverse_cons, List.getD_eq_getElem?_getD, List.getElem?_append_right (by rw [List.length_reverse]; omega), List.length_reverse, show fl.length - t.length = 0 by omega]
        rfl
  · exact absurd h (by simp)
theorem nd_nth {l : List Int} (h : l.Nodup) {i j : Nat} (hi : i < l.length) (hj : j < l.length) (e : nth l i = nth l j) : i = j := by
  rw [← nth_eq hi, ← nth_eq hj] at e
  have hp := List.pairwise_iff_getElem.1 h
  rcases Nat.lt_trichotomy i j with hl | rfl | hl
  · exact absurd e (hp i j hi hj hl)
  · rfl
  · exact absurd e.symm (hp j i hj hi hl)
theorem nd_rev {l : List Int} (h : l.Nodup) : l.reverse.Nodup := List.pairwise_reverse.2 (h.imp fun e => Ne.symm e)
theorem ad_I {ss : List ByteArray} {fs : List Q4} (hv : netP ss fs) {st st2 : Int} {xs ys va vb : List Int} (ha : routeN ss.length fs st xs = some va) (hb : routeN ss.length fs st2 ys = some vb) (hst : st = st2) (he : va.headD 0 = vb.headD 0) :
    (mkN (inn va) &&& mkN (inn vb) = 0) ↔ shB 1 va.reverse vb.reverse = false := by
  obtain ⟨a1, a2, a3, a4, a5, a6⟩ := routeN_facts hv ha
  obtain ⟨b1, b2, b3, b4, b5, b6⟩ := routeN_facts hv hb
  have hn8 := hv.1
  have bdA : ∀ k, k < (inn va).length → 0 ≤ nth (inn va) k ∧ nth (inn va) k < 20 := fun k hk => by
    have := a2 _ (mem_inn (List.getElem_mem hk)); rw [nth_eq hk] at this; omega
  have bdB : ∀ k, k < (inn vb).length → 0 ≤ nth (inn vb) k ∧ nth (inn vb) k < 20 := fun k hk => by
    have := b2 _ (mem_inn (List.getElem_mem hk)); rw [nth_eq hk] at this; omega
  have h := mask_meet2 (g := inn vb) (zs := inn va) rfl bdA bdB
  rw [Nat.and_comm]
  have hany : (inn va).any (fun f => decide (f ∈ inn vb)) = shB 1 va.reverse vb.reverse := by
    unfold shB
    by_cases hx : ∃ j, 1 ≤ j ∧ j + 1 < va.reverse.length ∧ nth va.reverse j ∈ vb.reverse
    · rw [pb_true hx]
      obtain ⟨j, h1, h2, h3⟩ := hx
      rw [List.length_reverse] at h2
      rw [List.any_eq_true]
      refine ⟨nth va.reverse j, mem_inn_iff.2 ⟨j, h1, h2, rfl⟩, decide_eq_true ?_⟩
      obtain ⟨i, hi, e⟩ := List.mem_iff_getElem.1 h3
      rw [nth_eq hi] at e
      rw [List.length_reverse] at hi
      refine mem_inn_iff.2 ⟨i, ?_, ?_, e⟩
      · refine Nat.pos_of_ne_zero fun h0 => ?_
        subst h0
        rw [b5, ← hst, ← a5] at e
        have := nd_nth (nd_rev a1) (by rw [List.length_reverse]; omega) (by rw [List.length_reverse]; omega) e
        omega
      · refine Nat.lt_of_le_of_ne (by omega) fun h0 => ?_
        have h9 : i = ys.length := by omega
        subst h9
        rw [b6, ← he, ← a6] at e
        have := nd_nth (nd_rev a1) (by rw [List.length_reverse]; omega) (by rw [List.length_reverse]; omega) e
        omega
    · rw [pb_false hx, List.any_eq_false]
      intro x hxm hxb
      have hxb := of_decide_eq_true hxb
      obtain ⟨j, h1, h2, rfl⟩ := mem_inn_iff.1 hxm
      exact hx ⟨j, h1, by rw [List.length_reverse]; exact h2, List.mem_reverse.2 (mem_inn hxb)⟩
  rw [← hany, h]
  show _ ↔ decide ((mkN (inn vb) &&& mkN (inn va)) ≠ 0) = false
  rw [decide_eq_false_iff_not, Decidable.not_not]
/-- disjoint of a kind. -/
noncomputable def disB (fs : List Q4) (kind : Int) (xs ys va vb : List Int) : Bool :=
  if kind = 1 then !shB 0 xs ys else if kind = 2 then pb (apP fs xs ys) else !shB 0 xs ys && !shB 1 va.reverse vb.reverse
noncomputable def rtV (ss : List ByteArray) (fs : List Q4) (st : Int) (xs : List Int) : List Int := (routeN ss.length fs st xs).getD []
def adP (ss : List ByteArray) (fs : List Q4) (st : Int) (xs : List Int) (st2 : Int) (ys : List Int) (kind : Int) : Prop :=
  crB ss fs st xs st2 ys = true ∧ (1 ≤ kind ∧ kind ≤ 3) ∧ st = st2 ∧ (rtV ss fs st xs).headD 0 = (rtV ss fs st2 ys).headD 0
noncomputable def adV (ss : List ByteArray) (fs : List Q4) (st : Int) (xs : List Int) (st2 : Int) (ys : List Int) (kind : Int) : Bool := pb (adP ss fs st xs st2 ys kind) && disB fs kind xs ys (rtV ss fs st xs) (rtV ss fs st2 ys)
noncomputable def adR (ss : List ByteArray) (fs : List Q4) (st : Int) (xs : List Int) (st2 : Int) (ys : List Int) (kind : Int) : Value := .tuple #[.bool (adV ss fs st xs st2 ys kind), .bool (pb (adP ss fs st xs st2 ys kind))]
theorem ad_no {ss : List ByteArray} {fs : List Q4} {st st2 : Int} {xs ys : List Int} {kind : Int} (h : ¬ adP ss fs st xs st2 ys kind) : (.tuple #[.bool false, .bool false] : Value) = adR ss fs st xs st2 ys kind := by
  unfold adR adV; rw [pb_false h]; rfl
theorem ad_yes {ss : List ByteArray} {fs : List Q4} {st st2 : Int} {xs ys : List Int} {kind : Int} (h : adP ss fs st xs st2 ys kind) {va vb : List Int} (ha : routeN ss.length fs st xs = some va) (hb : routeN ss.length fs st2 ys = some vb) : (.tuple #[.bool (disB fs kind xs ys va vb), .bool true] : Value) = adR ss fs st xs st2 ys kind := by
  unfold adR adV; rw [pb_true h]; unfold rtV; rw [ha, hb]; rfl
theorem rtV_eq {ss : List ByteArray} {fs : List Q4} {st : Int} {xs va : List Int} (ha : routeN ss.length fs st xs = some va) : rtV ss fs st xs = va := by unfold rtV; rw [ha]; rfl
end Go.Proofs.Ytkpendpjdemknaa
