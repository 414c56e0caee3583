/- A network copied: contract of spec.l2Own. No condition but those typed. -/
import Derived.Test.YtlgkjidginibdaaDoorGB
import Derived.Test.YtlgkjidginibdaaDoorFail
import Derived.Test.YtlgkjidginibdaaDoorOwn
import Derived.Test.YtlgkjidginibdaaDoorRws
import Derived.Deep.RegionLaw
import Derived.Deep.AppendLies
import Derived.Deep.CutBlock
import Derived.Deep.DeepCutAuto
namespace Go.Proofs.YtlgkjidginibdaaDoor
open Go.ChangeShapes Go.WideShapes Go.ChangeAt Go.RowKit

theorem step_app {P : Program} {ops : Array Oper} {o : Oper} {a : Act} {w : World} {K : Act → World → Prop} {Q : Exit → Act → World → Prop} {E : Prop}
    (hg : o.guard = none) (s x : Operand) (t : TypeId) (hop : o.op = Op.call { callee := Callee.builtin Builtin.append, args := #[s, x], argTypes := #[t, t] })
    (base : Nat) (e : TypeId) (i : TypeInfo) (z : Value) (size bytes : Nat) (h1 : P.underlying t = some (.slice e)) (h2 : P.info? e = some i) (h3 : i.zero = some z) (h4 : i.size = size) (h5 : i.bytes = bytes) (h6 : z.cells.size = size) (h7 : 0 < size)
    (v : Value) (n : Nat) (xs : List Value) (hs : a.eval s = v) (hown : w.ownsRow base e size v n xs)
    (ad : Addr) (m c : Nat) (news : List Value) (hx : a.eval x = .slice (some ad) m c) (hn : news.length = m * size) (hc : ∀ j u, news[j]? = some u → w.cell? (ad.add j) = some u) (h1c : ∀ u ∈ news, u.oneCell' = true)
    (b1 : n + m ≤ maxLen) (b2 : (n + m) * bytes ≤ 140737488355328) (hbase : base ≤ w.heap.size)
    (hK : ∀ v' w', w'.ownsRow base e size v' (n + m) (xs ++ news) → w.grownBy w' v.ownBlock → K (a.put o.dst v') w') :
    if Region.wanted o (yielded ops a.tmps) = true then Oper.wp P o a w K Q else E := by
  have hw : Region.wanted o (yielded ops a.tmps) = true := by simp [Region.wanted, hg]
  rw [if_pos hw]
  obtain ⟨v', w', hrun, r1, r2, _⟩ := run_append_own (P := P) w base t o.type e i z size bytes h1 h2 h3 h4 h5 h6 h7 v n xs hown ad m c news hn hc h1c b1 b2 hbase
  unfold Oper.wp
  simp [execOp, hop, resolve, invoke, builtin, hs, hx, hrun, Result.andThen]
  exact hK v' w' r1 r2
theorem lit_own {W : World} {b B size : Nat} {E : TypeId} (h : W.heap[b]? = some (.cells #[] E (0, 0))) (hB : B ≤ b) : W.ownsRow B E size (.slice (some ⟨b, 0, none⟩) 0 0) 0 [] := by
  exact ⟨by simp, .inr ⟨b, 0, #[], rfl, hB, h, by simp, by unfold maxLen; omega, by simp⟩⟩
theorem nh {W : World} {o : Obj} {b : Nat} (hb : W.heap.size = b) : (W.alloc o).heap[b]? = some o := by subst hb; exact heap_alloc_new _ _
theorem oh {W : World} {o : Obj} {b : Nat} (hb : b < W.heap.size) : (W.alloc o).heap[b]? = W.heap[b]? := ((Below.refl W.heap.size W).alloc (Nat.le_refl _) o).block b hb
theorem one_strs (ss : List ByteArray) : ∀ u ∈ ss.map Value.string, u.oneCell' = true := by
  intro u hu
  obtain ⟨z, _, rfl⟩ := List.mem_map.1 hu
  rfl
theorem one_q4s (fs : List Q4) : ∀ u ∈ fs.flatMap Q4.cells, u.oneCell' = true := by
  intro u hu
  obtain ⟨q, _, h⟩ := List.mem_flatMap.1 hu
  simp only [Q4.cells, List.mem_cons, List.not_mem_nil, or_false] at h
  rcases h with rfl | rfl | rfl | rfl <;> rfl
theorem rd_cells {w : World} {B : Nat} {ad : Addr} {xs : List Value} (h : Rd w B (some ad) xs) {U : World} (hU : Below B w U) : ∀ (j : Nat) (u : Value), xs[j]? = some u → U.cell? (ad.add j) = some u := fun j u hu => by
  obtain ⟨ad', e, hl, hc⟩ := h.over hU j u hu
  obtain rfl := Option.some.inj e
  exact hc
end Go.Proofs.YtlgkjidginibdaaDoor
