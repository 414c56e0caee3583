/- Rings: which lists of fibers are rings in standard form: plain words, the specification's walk around held against the implementation's. No condition. -/
import Derived.Test.YtkpendpjdemknaaDoorGD
namespace Go.Proofs.YtkpendpjdemknaaDoor
open Go.ChangeShapes Go.WideShapes Go.ChangeAt Go.RowKit

/-- the specification's walk around a ring: the fibers before, the nodes so far (the latest first), where it stands. -/
def rw7 (fs : List Q4) : List Int → List Int → List Int → Int → Option (List Int × Int)
  | [], _, ns, a => some (ns, a)
  | x :: r, seen, ns, a => if (0 ≤ x ∧ x < fs.length) ∧ ¬ x ∈ seen ∧ ¬ a ∈ ns ∧ acrB (fibI fs x) a = true then rw7 fs r (seen ++ [x]) (a :: ns) (acrI (fibI fs x) a) else none
theorem rw7_yes {fs : List Q4} {x a : Int} {r seen ns : List Int} (h : (0 ≤ x ∧ x < fs.length) ∧ ¬ x ∈ seen ∧ ¬ a ∈ ns ∧ acrB (fibI fs x) a = true) : rw7 fs (x :: r) seen ns a = rw7 fs r (seen ++ [x]) (a :: ns) (acrI (fibI fs x) a) := by rw [rw7, if_pos h]
theorem rw7_no {fs : List Q4} {x a : Int} {r seen ns : List Int} (h : ¬ ((0 ≤ x ∧ x < fs.length) ∧ ¬ x ∈ seen ∧ ¬ a ∈ ns ∧ acrB (fibI fs x) a = true)) : rw7 fs (x :: r) seen ns a = none := by rw [rw7, if_neg h]
theorem rw7_iff {fs : List Q4} (last : Int) : ∀ (mid seen ns : List Int) (a : Int) (es : List Int) (F : Int), ¬ a ∈ ns →
    (rw7 fs (mid ++ [last]) seen ns a = some (es, F) ↔ (walkR fs mid (a :: ns) = some es ∧ (0 ≤ last ∧ last < fs.length) ∧ acrB (fibI fs last) (es.headD 0) = true ∧ acrI (fibI fs last) (es.headD 0) = F ∧ (∀ x ∈ mid ++ [last], ¬ x ∈ seen) ∧ (mid ++ [last]).Nodup))
  | [], seen, ns, a, es, F, ha => by
    rw [List.nil_append]
    by_cases hc : (0 ≤ last ∧ last < fs.length) ∧ ¬ last ∈ seen ∧ ¬ a ∈ ns ∧ acrB (fibI fs last) a = true
    · rw [rw7_yes hc, rw7, walkR]
      constructor
      · intro h
        injection h with h
        injection h with h1 h2
        subst h1
        exact ⟨rfl, hc.1, hc.2.2.2, h2, by intro x hx; rw [List.mem_singleton.1 hx]; exact hc.2.1, by simp⟩
      · rintro ⟨h1, _, _, h4, _, _⟩
        injection h1 with h1
        subst h1
        rw [← h4]; rfl
    · rw [rw7_no hc, walkR]
      constructor
      · intro h; exact absurd h (by simp)
      · rintro ⟨h1, h2, h3, _, h5, _⟩
        injection h1 with h1
        subst h1
        exact absurd ⟨h2, h5 last (by simp), ha, h3⟩ hc
  | x :: r, seen, ns, a, es, F, ha => by
    rw [List.cons_append]
    by_cases hc : (0 ≤ x ∧ x < fs.length) ∧ ¬ x ∈ seen ∧ ¬ a ∈ ns ∧ acrB (fibI fs x) a = true
    · rw [rw7_yes hc]
      by_cases hb : acrI (fibI fs x) a ∈ a :: ns
      · have h1 : rw7 fs (r ++ [last]) (seen ++ [x]) (a :: ns) (acrI (fibI fs x) a) = none := by
          cases r with
          | nil => exact rw7_no (fun h => h.2.2.1 hb)
          | cons y r => exact rw7_no (fun h => h.2.2.1 hb)
        have h2 : walkR fs (x :: r) (a :: ns) = none := walkR_none (by
          unfold stepO; rw [if_neg (fun h => h.2.2 hb)])
        rw [h1, h2]
        constructor
        · intro h; exact absurd h (by simp)
        · rintro ⟨h, _⟩; exact absurd h (by simp)
      · have h2 : walkR fs (x :: r) (a :: ns) = walkR fs r (acrI (fibI fs x) a :: a :: ns) := walkR_some (by
          unfold stepO; rw [if_pos ⟨hc.1, hc.2.2.2, hb⟩]; rfl)
        rw [h2, rw7_iff last r (seen ++ [x]) (a :: ns) (acrI (fibI fs x) a) es F hb]
        constructor
        · rintro ⟨k1, k2, k3, k4, k5, k6⟩
          refine ⟨k1, k2, k3, k4, fun y hy => ?_, ?_⟩
          · rcases List.mem_cons.1 hy with rfl | hy
            · exact hc.2.1
            · exact fun h => k5 y hy (List.mem_append_left _ h)
          · exact List.nodup_cons.2 ⟨fun h => k5 x h (by simp), k6⟩
        · rintro ⟨k1, k2, k3, k4, k5, k6⟩
          refine ⟨k1, k2, k3, k4, fun y hy h => ?_, (List.nodup_cons.1 k6).2⟩
          rcases List.mem_append.1 h with h | h
          · exact k5 y (List.mem_cons_of_mem _ hy) h
          · rw [List.mem_singleton.1 h] at hy
            exact (List.nodup_cons.1 k6).1 hy
    · rw [rw7_no hc]
      constructor
      · intro h; exact absurd h (by simp)
      · rintro ⟨h1, _, _, _, h5, _⟩
        exfalso
        cases hs : stepO fs (a :: ns) x with
        | none => rw [walkR_none hs] at h1; exact absurd h1 (by simp)
        | some nx =>
          unfold stepO at hs
          split at hs
          · rename_i h
            exact hc ⟨h.1, h5 x (by simp), ha, h.2.1⟩
          · exact absurd hs (by simp)
theorem walkR_sub {fs : List Q4} : ∀ {fl ns vs : List Int}, walkR fs fl ns = some vs → ∃ p, vs = p ++ ns
  | [], ns, vs, h => by rw [walkR] at h; injection h with h; exact ⟨[], h.symm⟩
  | x :: r, ns, vs, h => by
    cases hs : stepO fs ns x with
    | none => rw [walkR_none hs] at h; exact absurd h (by simp)
    | some nx =>
      rw [walkR_some hs] at h
      obtain ⟨p, e⟩ := walkR_sub h
      exact ⟨p ++ [nx], by rw [e]; simp⟩
theorem acr_two {q : Q4} {x : Int} (h : acrB q x = true) : (x = q.a ∧ acrI q x = q.b) ∨ (x = q.b ∧ acrI q x = q.a) := by
  unfold acrB at h
  unfold acrI
  rcases of_decide_eq_true h with h | h
  · left; rw [if_pos h]; exact ⟨h, rfl⟩
  · by_cases h2 : x = q.a
    · left; rw [if_pos h2]; exact ⟨h2, rfl⟩
    · right; rw [if_neg h2, if_pos h]; exact ⟨h, rfl⟩
theorem walkR_far {fs : List Q4} {A : Int} : ∀ {fl ns vs : List Int}, walkR fs fl ns = some vs → ns.headD 0 ≠ A → A ∈ ns → ∀ x ∈ fl, acrB (fibI fs x) A = false
  | [], _, _, _, _, _, x, hx => by simp at hx
  | y :: r, ns, vs, h, hn, hm, x, hx => by
    cases hs : stepO fs ns y with
    | none => rw [walkR_none hs] at h; exact absurd h (by simp)
    | some nx =>
      rw [walkR_some hs] at h
      have hc : ((0 ≤ y ∧ y < fs.length) ∧ acrB (fibI fs y) (ns.headD 0) = true ∧ ¬ acrI (fibI fs y) (ns.headD 0) ∈ ns) ∧ acrI (fibI fs y) (ns.headD 0) = nx := by
        unfold stepO at hs
        split at hs
        · rename_i hc; injection hs with hs; exact ⟨hc, hs⟩
        · exact absurd hs (by simp)
      obtain ⟨⟨_, ha, hni⟩, hx2⟩ := hc
      have hxA : nx ≠ A := fun e => hni (by rw [hx2, e]; exact hm)
      rcases List.mem_cons.1 hx with rfl | hx
      · cases hb : acrB (fibI fs x) A with
        | false => rfl
        | true =>
          exfalso
          rcases acr_two ha with ⟨h1, h2⟩ | ⟨h1, h2⟩ <;> rcases acr_two hb with ⟨h3, _⟩ | ⟨h3, _⟩
          · exact hn (h1.trans h3.symm)
          · exact hxA (by rw [← hx2, h2, h3])
          · exact hxA (by rw [← hx2, h2, h3])
          · exact hn (h1.trans h3.symm)
      · exact walkR_far h hxA (List.mem_cons_of_mem _ hm) x hx
/-- the nodes of a ring in standard form, the latest first. -/
def rgI (fs : List Q4) (ring : List Int) : Option (List Int) :=
  if 2 ≤ ring.length ∧ 0 ≤ ring.headD 0 ∧ ring.headD 0 < fs.length then
    match walkR fs ring.dropLast [(fibI fs (ring.headD 0)).a] with
    | none => none
    | some vs => if (∀ v ∈ vs, (fibI fs (ring.headD 0)).a ≤ v) ∧ (0 ≤ ring.getLastD 0 ∧ ring.getLastD 0 < fs.length) ∧ acrB (fibI fs (ring.getLastD 0)) (vs.headD 0) = true ∧ acrI (fibI fs (ring.getLastD 0)) (vs.headD 0) = (fibI fs (ring.headD 0)).a ∧ ring.headD 0 < ring.getLastD 0 then some vs else none
  else none
theorem ring_parts {ring : List Int} (h : 2 ≤ ring.length) : ∃ (f0 : Int) (mid : List Int) (last : Int), ring = f0 :: mid ++ [last] ∧ ring.headD 0 = f0 ∧ ring.getLastD 0 = last ∧ ring.dropLast = f0 :: mid := by
  match ring, h with
  | f0 :: y :: r, _ =>
    have hne : y :: r ≠ [] := by simp
    refine ⟨f0, (y :: r).dropLast, (y :: r).getLast hne, ?_, rfl, ?_, ?_⟩
    · rw [List.cons_append, List.dropLast_concat_getLast hne]
    · rw [List.getLastD_eq_getLast?, List.getLast?_eq_some_getLast (by simp)]; simp
    · rfl
theorem rg_some {fs : List Q4} {ring vs : List Int} (h : rgI fs ring = some vs) : ∃ (f0 : Int) (mid : List Int) (last : Int), ring = f0 :: mid ++ [last] ∧ (0 ≤ f0 ∧ f0 < fs.length) ∧ walkR fs (f0 :: mid) [(fibI fs f0).a] = some vs ∧ (∀ v ∈ vs, (fibI fs f0).a ≤ v) ∧ (0 ≤ last ∧ last < fs.length) ∧ acrB (fibI fs last) (vs.headD 0) = true ∧ acrI (fibI fs last) (vs.headD 0) = (fibI fs f0).a ∧ f0 < last := by
  unfold rgI at h
  split at h
  · rename_i hc
    obtain ⟨f0, mid, last, e1, e2, e3, e4⟩ := ring_parts hc.1
    rw [e2, e3, e4] at h
    rw [e2] at hc
    split at h
    · exact absurd h (by simp)
    · rename_i us hu
      split at h
      · rename_i hd
        injection h with h
        subst h
        exact ⟨f0, mid, last, e1, hc.2, hu, hd.1, hd.2.1, hd.2.2.1, hd.2.2.2.1, hd.2.2.2.2⟩
      · exact absurd h (by simp)
  · exact absurd h (by simp)
theorem rg_mk {fs : List Q4} {f0 last : Int} {mid vs : List Int} (h0 : 0 ≤ f0 ∧ f0 < fs.length) (h1 : walkR fs (f0 :: mid) [(fibI fs f0).a] = some vs) (h2 : ∀ v ∈ vs, (fibI fs f0).a ≤ v) (h3 : 0 ≤ last ∧ last < fs.length) (h4 : acrB (fibI fs last) (vs.headD 0) = true) (h5 : acrI (fibI fs last) (vs.headD 0) = (fibI fs f0).a) (h6 : f0 < last) : rgI fs (f0 :: mid ++ [last]) = some vs := by
  obtain ⟨g0, mid', last', e1, e2, e3, e4⟩ := ring_parts (ring := f0 :: mid ++ [last]) (by simp)
  have e5 : f0 = g0 := by rw [← e2]; rfl
  have e6 : last = last' := by
    rw [← e3, List.getLastD_eq_getLast?, List.getLast?_append]; simp
  have e7 : f0 :: mid = g0 :: mid' := by
    rw [← e4, List.dropLast_concat]
  subst e5 e6
  unfold rgI
  rw [e2, e3, e4, ← e7, if_pos ⟨by simp, h0⟩, h1]
  simp only
  rw [if_pos ⟨h2, h3, h4, h5, h6⟩]
/-- where the specification's walk comes round. -/
def okR (fs : List Q4) (ring : List Int) (from_ : Int) (es : List Int) : Prop := rw7 fs ring [] [] from_ = some (es, from_) ∧ 1 < ring.length
theorem ok_of_rg {fs : List Q4} {ring vs : List Int} (h : rgI fs ring = some vs) : okR fs ring (fibI fs (ring.headD 0)).a vs := by
  obtain ⟨f0, mid, last, rfl, h0, h1, h2, h3, h4, h5, h6⟩ := rg_some h
  refine ⟨?_, by simp⟩
  show rw7 fs (f0 :: mid ++ [last]) [] [] (fibI fs f0).a = some (vs, (fibI fs f0).a)
  rw [rw7_iff last (f0 :: mid) [] [] _ vs _ (by simp)]
  refine ⟨h1, h3, h4, h5, by simp, ?_⟩
  have hnd := (walkR_fresh (seen := []) (by simp) (fun x hx => by simp at hx) h1).1
  have hA : acrB (fibI fs last) (fibI fs f0).a = true := by
    rcases acr_two h4 with ⟨k1, k2⟩ | ⟨k1, k2⟩
    · unfold acrB; exact decide_eq_true (.inr (h5.symm.trans k2))
    · unfold acrB; exact decide_eq_true (.inl (h5.symm.trans k2))
  have hs : stepO fs [(fibI fs f0).a] f0 ≠ none := fun e => by rw [walkR_none e] at h1; exact absurd h1 (by simp)
  have hmid : ∀ x ∈ mid, acrB (fibI fs x) (fibI fs f0).a = false := by
    cases hst : stepO fs [(fibI fs f0).a] f0 with
    | none => exact absurd hst hs
    | some nx =>
      rw [walkR_some hst] at h1
      refine walkR_far h1 ?_ (by simp)
      intro e
      unfold stepO at hst
      split at hst
      · rename_i hc
        injection hst with hst
        apply hc.2.2
        rw [hst]
        have e' : nx = (fibI fs f0).a := e
        rw [e']; simp
      · exact absurd hst (by simp)
  rw [List.nodup_append]
  refine ⟨hnd, by simp, fun x hx y hy => ?_⟩
  rw [List.mem_singleton.1 hy]
  rcases List.mem_cons.1 hx with rfl | hx
  · omega
  · intro e
    have := hmid x hx
    rw [e, hA] at this
    exact absurd this (by simp)
/-- a walk round that is in standard form. -/
theorem rg_first {ss : List ByteArray} {fs : List Q4} (hv : netP ss fs) {ring es : List Int} {from_ : Int} (h : okR fs ring from_ es) (hno : ∀ j : Int, 0 ≤ j → j < from_ → ∀ us, ¬ okR fs ring j us) :
    ∃ (f0 : Int) (mid : List Int) (last : Int), ring = f0 :: mid ++ [last] ∧ f0 ≠ last ∧ (((∀ v ∈ es, from_ ≤ v) ∧ ¬ last < f0) → rgI fs ring = some es) ∧ (¬ ((∀ v ∈ es, from_ ≤ v) ∧ ¬ last < f0) → rgI fs ring = none) := by
  obtain ⟨h1, h2⟩ := h
  obtain ⟨f0, mid, last, e, _, _, _⟩ := ring_parts (ring := ring) (by omega)
  subst e
  have h3 := (rw7_iff last (f0 :: mid) [] [] from_ es from_ (by simp)).1 h1
  obtain ⟨k1, k2, k3, k4, _, k6⟩ := h3
  have hne : f0 ≠ last := by
    intro e
    have := (List.nodup_append.1 k6).2.2 f0 (by simp) last (by simp)
    exact this e
  have hs : ((0 ≤ f0 ∧ f0 < fs.length) ∧ acrB (fibI fs f0) from_ = true) := by
    cases hst : stepO fs [from_] f0 with
    | none => rw [walkR_none hst] at k1; exact absurd k1 (by simp)
    | some nx =>
      unfold stepO at hst
      split at hst
      · rename_i hc; exact ⟨hc.1, hc.2.1⟩
      · exact absurd hst (by simp)
  have hfib : 0 ≤ (fibI fs f0).a ∧ (fibI fs f0).a < (fibI fs f0).b := by
    have hk : f0.toNat < fs.length := by omega
    have := (hv.2.2.2 f0.toNat hk hk).1
    unfold fibP at this
    unfold fibI
    rw [List.getD_eq_getElem?_getD, List.getElem?_eq_getElem hk]
    exact ⟨this.1, this.2.1⟩
  have hnone : rgI fs (f0 :: mid ++ [last]) = none ∨ from_ = (fibI fs f0).a := by
    cases hr : rgI fs (f0 :: mid ++ [last]) with
    | none => exact .inl rfl
    | some us =>
      right
      have h5 := ok_of_rg hr
      have h6 : (f0 :: mid ++ [last]).headD 0 = f0 := rfl
      rw [h6] at h5
      rcases acr_two hs.2 with ⟨h7, _⟩ | ⟨h7, _⟩
      · exact h7
      · exact absurd h5 (hno _ hfib.1 (by omega) us)
  refine ⟨f0, mid, last, rfl, hne, fun hc => ?_, fun hc => ?_⟩
  · have hA : from_ = (fibI fs f0).a := by
      rcases acr_two hs.2 with ⟨h7, _⟩ | ⟨h7, h8⟩
      · exact h7
      · exfalso
        have hm : (fibI fs f0).a ∈ es := by
          have hst : stepO fs [from_] f0 = some (acrI (fibI fs f0) from_) := by
            cases hst : stepO fs [from_] f0 with
            | none => rw [walkR_none hst] at k1; exact absurd k1 (by simp)
            | some nx =>
              unfold stepO at hst
              split at hst
              · injection hst with hst; rw [← hst]; rfl
              · exact absurd hst (by simp)
          rw [walkR_some hst, h8] at k1
          obtain ⟨p, hp⟩ := walkR_sub k1
          rw [hp]; simp
        have := hc.1 _ hm
        omega
    subst hA
    exact rg_mk hs.1 k1 hc.1 k2 k3 k4 (by omega)
  · rcases hnone with h5 | h5
    · exact h5
    · cases hr : rgI fs (f0 :: mid ++ [last]) with
      | none => rfl
      | some us =>
        exfalso
        obtain ⟨f0', mid', last', e, _, r1, r2, _, _, _, r6⟩ := rg_some hr
        have e3 := (List.append_inj' e rfl).1
        have e2 : last = last' := by
          have := (List.append_inj' e rfl).2
          simpa using this
        have e1 : f0 = f0' := (List.cons.inj e3).1
        rw [← e3, ← e1] at r1
        subst h5
        rw [k1] at r1
        injection r1 with r1
        subst r1 e1 e2
        exact hc ⟨r2, by omega⟩
theorem rg_never {ss : List ByteArray} {fs : List Q4} (hv : netP ss fs) {ring : List Int} (hno : ∀ j : Int, 0 ≤ j → j < ss.length → ∀ us, ¬ okR fs ring j us) : rgI fs ring = none := by
  cases hr : rgI fs ring with
  | none => rfl
  | some us =>
    exfalso
    have h5 := ok_of_rg hr
    obtain ⟨f0, mid, last, rfl, h0, _⟩ := rg_some hr
    have h6 : (f0 :: mid ++ [last]).headD 0 = f0 := rfl
    rw [h6] at h5
    have hk : f0.toNat < fs.length := by omega
    have := (hv.2.2.2 f0.toNat hk hk).1
    unfold fibP at this
    have hq : fibI fs f0 = fs[f0.toNat] := by unfold fibI; rw [List.getD_eq_getElem?_getD, List.getElem?_eq_getElem hk]; rfl
    exact hno _ (by rw [hq]; omega) (by rw [hq]; omega) us h5
end Go.Proofs.YtkpendpjdemknaaDoor
