/- The risk groups of a network: contracts of spec.l2Groups, spec.RiskGroups. No condition but those typed. -/
import Derived.Test.YtlgkjidginibdaaGrp
namespace Go.Proofs.Ytlgkjidginibdaa
open Go.ChangeShapes Go.WideShapes Go.ChangeAt Go.RowKit

theorem rkK_pre {fs : List Q4} {r : Int} {k : Nat} (h : k ≤ fs.length) (he : rkK fs r fs.length = []) : rkK fs r k = [] := by
  rcases hl : rkK fs r k with _ | ⟨x, l⟩
  · rfl
  · exfalso
    have hx : x ∈ rkK fs r k := by rw [hl]; exact List.mem_cons_self
    obtain ⟨i, e, hi, hd⟩ := rk_mem.1 hx
    have h2 : x ∈ rkK fs r fs.length := rk_mem.2 ⟨i, e, by omega, hd⟩
    rw [he] at h2; simp at h2
theorem grp_at {fs : List Q4} {i : Nat} {q : Q4} (hq : q.d ≠ 0) : grpL fs i q = rkK fs q.d fs.length := by unfold grpL; rw [if_neg hq]
end Go.Proofs.Ytlgkjidginibdaa
