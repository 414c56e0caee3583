/- Lists of services in plain words. No condition but those typed. -/
import Derived.Test.YtlgkjidginibdaaDoorScA
namespace Go.Proofs.YtlgkjidginibdaaDoor
open Go.ChangeShapes Go.WideShapes Go.ChangeAt Go.RowKit

theorem any_symm (xs ys : List Int) : (xs.any fun f => decide (f ∈ ys)) = (ys.any fun f => decide (f ∈ xs)) := by
  rw [Bool.eq_iff_iff, List.any_eq_true, List.any_eq_true]
  constructor
  · rintro ⟨f, h1, h2⟩; exact ⟨f, of_decide_eq_true h2, decide_eq_true h1⟩
  · rintro ⟨f, h1, h2⟩; exact ⟨f, of_decide_eq_true h2, decide_eq_true h1⟩
theorem ov_symm (p q : Q2) : pb (ovP p q) = pb (ovP q p) := by
  by_cases h : ovP p q
  · rw [pb_true h, pb_true (show ovP q p from ⟨h.2, h.1⟩)]
  · rw [pb_false h, pb_false (fun h9 : ovP q p => h ⟨h9.2, h9.1⟩)]
theorem cl_symm (xs ys : List Int) (p q : Q2) : clB xs ys p q = clB ys xs q p := by
  unfold clB
  rw [any_symm xs ys, ov_symm p q]
  cases (decide (0 < p.b)) <;> cases (decide (0 < q.b)) <;> rfl
theorem both_symm (gs : List (List Int)) (xs ys : List Int) (n : Nat) : bothK gs xs ys n = bothK gs ys xs n := by
  unfold bothK
  have : bothQ gs xs ys = bothQ gs ys xs := by
    funext k; unfold bothQ; rw [Bool.and_comm]
  rw [this]
theorem ap_symm {ss : List ByteArray} {fs : List Q4} (hv : netP ss fs) {xs ys : List Int} (hx : ∀ x ∈ xs, 0 ≤ x ∧ x < fs.length) (hy : ∀ x ∈ ys, 0 ≤ x ∧ x < fs.length) : pb (apP fs xs ys) = pb (apP fs ys xs) := by
  have h1 := ap_iff hv (xs := xs) (ys := ys) hx
  have h2 := ap_iff hv (xs := ys) (ys := xs) hy
  rw [both_symm] at h1
  by_cases h : apP fs xs ys
  · rw [pb_true h, pb_true (h2.2 (h1.1 h))]
  · rw [pb_false h, pb_false (fun h9 => h (h1.2 (h2.1 h9)))]
/-- of valid services: which of two is asked first does not matter. -/
theorem co_symm {ss : List ByteArray} {fs : List Q4} (hv : netP ss fs) {d e : SvD} (hd : svP ss fs d) (he : svP ss fs e) : coD fs d e = coD fs e d := by
  unfold coD coB
  rw [cl_symm e.zs d.zs, cl_symm e.zs d.us, cl_symm e.us d.zs, cl_symm e.us d.us, ap_symm hv (svP_zs hd) (svP_zs he)]
  cases (clB d.zs e.zs ⟨d.x1, d.y1⟩ ⟨e.x1, e.y1⟩) <;> cases (clB d.zs e.us ⟨d.x1, d.y1⟩ ⟨e.x2, e.y2⟩) <;> cases (clB d.us e.zs ⟨d.x2, d.y2⟩ ⟨e.x1, e.y1⟩) <;> cases (decide (d.k = 2)) <;> cases (decide (e.k = 2)) <;> rfl
def svn (ds : List SvD) (i : Nat) : SvD := ds.getD i ⟨0, 0, 0, [], 0, 0, 0, [], 0, 0⟩
theorem svn_eq {ds : List SvD} {i : Nat} (h : i < ds.length) : svn ds i = ds[i] := by unfold svn; rw [List.getD_eq_getElem?_getD, List.getElem?_eq_getElem h]; rfl
theorem svn_at {ys : List Sv} {ds : List SvD} (hd : ys.map Sv.d = ds) {k : Nat} (hk : k < ys.length) {y : Sv} (hy : ys[k] = y) : svn ds k = y.d := by
  subst hd
  rw [svn_eq (by simpa using hk)]
  simp [hy]
def svStep (ss : List ByteArray) (fs : List Q4) (ds : List SvD) (i : Nat) : Prop := svP ss fs (svn ds i) ∧ (0 < i → (svn ds (i - 1)).i < (svn ds i).i)
/-- a valid list of services. -/
def svsP (ss : List ByteArray) (fs : List Q4) (ds : List SvD) : Prop := netP ss fs ∧ ds.length ≤ 8 ∧ (∀ i, i < ds.length → svStep ss fs ds i) ∧ ∀ i j, j < i → i < ds.length → coD fs (svn ds j) (svn ds i) = true
theorem svs_net {ss : List ByteArray} {fs : List Q4} {ds : List SvD} (h : ¬ netP ss fs) : pb (svsP ss fs ds) = false := pb_false fun x => h x.1
theorem svs_len {ss : List ByteArray} {fs : List Q4} {ds : List SvD} (h : ¬ ds.length ≤ 8) : pb (svsP ss fs ds) = false := pb_false fun x => h x.2.1
theorem svs_step {ss : List ByteArray} {fs : List Q4} {ds : List SvD} {i : Nat} (hi : i < ds.length) (h : ¬ svStep ss fs ds i) : pb (svsP ss fs ds) = false := pb_false fun x => h (x.2.2.1 i hi)
theorem svs_col {ss : List ByteArray} {fs : List Q4} {ds : List SvD} {i j : Nat} (hi : i < ds.length) (hj : j < i) (h : coD fs (svn ds j) (svn ds i) = false) : pb (svsP ss fs ds) = false := pb_false fun x => by have := x.2.2.2 i j hj hi; rw [h] at this; exact absurd this (by decide)
end Go.Proofs.YtlgkjidginibdaaDoor
