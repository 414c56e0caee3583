/- Own plans: bounds of the marks, and what keeps them. No condition. -/
import Derived.Test.YtkpendpjdemknaaPlV
import Derived.Test.YtkpendpjdemknaaGD
import Derived.Test.YtkpendpjdemknaaGB
namespace Go.Proofs.Ytkpendpjdemknaa
open Go.ChangeShapes Go.WideShapes Go.ChangeAt Go.RowKit
theorem LtC.offB {S : Nat → Prop} {B : Nat} {A : Option Addr} {n c : Nat} {ys : List Lt} {w w' : World} (h : LtC B A n c ys w) (hoff : Off S w w') (hs : ∀ b, S b → b < B) : LtC B A n c ys w' :=
  h.offV hoff (fun b hb hS => by
    have h9 := hs b hS
    rcases hb with hb | ⟨y, hy, hb⟩
    · exact absurd (h.row.lt b hb).1 (by omega)
    · exact absurd ((h.own y hy).2.2.lt b hb).1 (by omega))
theorem LtC.blGe {B : Nat} {A : Option Addr} {n c : Nat} {ys : List Lt} {w : World} (h : LtC B A n c ys w) {b : Nat} (hb : LtBl A n c ys b) : B ≤ b := by
  rcases hb with hb | ⟨y, hy, hb⟩
  · exact (h.row.lt b hb).1
  · exact ((h.own y hy).2.2.lt b hb).1
theorem plTot {B : Nat} {A : Option Addr} {N1 N2 N3 d3 : Nat} {zs : List Lt} {LD : List LtD} {w : World} (hC : LtC B A N3 d3 zs w) (hz : zs.map Lt.d = LD) (hE : ∀ d ∈ LD, d.zs.length ≤ 1000) (h3 : N3 ≤ 1000) (h1 : N1 ≤ 1048576) (h2 : N2 ≤ 1048576) : mAt (1 + N1 + 4 * N2) zs N3 ≤ 90000000 := by
  have h := mAt_bound (1 + N1 + 4 * N2) zs N3 1000 (fun y hy => by
    have h9 := hE y.d (by rw [← hz]; exact List.mem_map_of_mem hy)
    rw [← (hC.own y hy).1]; exact h9)
  have h5 : N3 * (4 + 1000) ≤ 1000 * (4 + 1000) := Nat.mul_le_mul_right _ h3
  omega
theorem nodup_bound : ∀ (n : Nat) (l : List Int), l.Nodup → (∀ x ∈ l, 0 ≤ x ∧ x < (n : Int)) → l.length ≤ n
  | 0, l, _, h => by
    cases l with
    | nil => exact Nat.le_refl _
    | cons x r => have := h x (by simp); omega
  | n + 1, l, hn, h => by
    by_cases hm : (n : Int) ∈ l
    · have h1 := nodup_bound n (l.erase (n : Int)) (hn.erase _) (fun x hx => by
        have h2 := (hn.mem_erase_iff).1 hx
        have h3 := h x h2.2
        have h4 := h2.1
        omega)
      rw [List.length_erase_of_mem hm] at h1
      omega
    · have h1 := nodup_bound n l hn (fun x hx => by
        have h3 := h x hx
        have h4 : x ≠ (n : Int) := fun e => hm (e ▸ hx)
        omega)
      omega
theorem plan_short {ss : List ByteArray} {fs : List Q4} {ds : List LtD} (h : planP ss fs ds) : ds.length ≤ 12 ∧ ∀ d ∈ ds, d.zs.length ≤ 14 := by
  refine ⟨h.2.1, fun d hd => ?_⟩
  obtain ⟨i, hi, rfl⟩ := List.getElem_of_mem hd
  have h1 := (h.2.2.1 i hi).1.2.1
  have e : dn ds i = ds[i] := by unfold dn; rw [List.getD_eq_getElem?_getD, List.getElem?_eq_getElem hi]; rfl
  rw [e] at h1
  obtain ⟨h2, h3⟩ := route_nodup h1
  have := nodup_bound fs.length _ h2 h3
  have := h.1.2.1
  omega
end Go.Proofs.Ytkpendpjdemknaa
