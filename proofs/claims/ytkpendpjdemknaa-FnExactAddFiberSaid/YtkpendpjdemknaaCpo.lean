/- copy of structs into a part of a row of the call's own: laws for the walk. No condition but those typed. -/
import Derived.Test.YtkpendpjdemknaaCpr
namespace Go.Proofs.Ytkpendpjdemknaa
open Go.ChangeShapes Go.WideShapes Go.ChangeAt Go.RowKit

theorem run_copy_part {P : Program} (w : World) (dT sT ty elem : TypeId) (s g o m m1 m2 dCap : Nat) (a : Addr) (sCap : Nat) (cur : Array Value) (t : TypeId) (cs : List Value)
    (hu : P.underlying dT = some (.slice elem)) (hs : (P.info? elem).map (·.size) = some s)
    (hg : w.heap[g]? = some (.cells cur t (0, 0))) (hm : min m1 m2 = m) (hn : cs.length = m * s)
    (hsrc : ∀ j v, cs[j]? = some v → w.cell? (a.add j) = some v) (hfit : o + cs.length ≤ cur.size) (h1 : ∀ v ∈ cs, v.oneCell' = true) :
    (Builtin.copy_ #[dT, sT] ty #[.slice (some ⟨g, o, none⟩) m1 dCap, .slice (some a) m2 sCap]).run P w = .ok (goInt m) (w.setRow g (cur.toList.take o ++ cs ++ cur.toList.drop (o + cs.length)).toArray) := by
  have hl := run_loadCells_list (P := P) w a cs hsrc
  have hst := run_storeCells_at P g o t cs 0 cur w hg (by omega) h1
  cases hq : P.info? elem with
  | none => simp [hq] at hs
  | some i =>
    have hi : i.size = s := by simpa [hq] using hs
    simp only [Nat.add_zero] at hst
    have hm2 : m2.min m1 = m := by show min m2 m1 = m; omega
    have hm3 : m1.min m2 = m := by show min m1 m2 = m; omega
    simp [-List.append_assoc, Builtin.copy_, run_underlying hu, Builtin.lenOf, Builtin.firstCells, sizeOf, typeInfo, hq, hi, hm, hm2, hm3, ← hn, hl, hst]
theorem own_copied {w : World} {B elem size g n o : Nat} {old cs : List Value} (hown : w.ownsRow B elem size (.slice (some ⟨g, 0, none⟩) n n) n old) (hfit : o + cs.length ≤ n * size) :
    ∃ cur : Array Value, w.heap[g]? = some (.cells cur elem (0, 0)) ∧ cur.size = n * size ∧ (w.setRow g (cur.toList.take o ++ cs ++ cur.toList.drop (o + cs.length)).toArray).ownsRow B elem size (.slice (some ⟨g, 0, none⟩) n n) n (old.take o ++ cs ++ old.drop (o + cs.length)) ∧ Below B w (w.setRow g (cur.toList.take o ++ cs ++ cur.toList.drop (o + cs.length)).toArray) := by
  rcases hown.2 with ⟨h9, _⟩ | ⟨g9, cap, cur, h9, hB, hg, hc1, hc2, hc3, hc4⟩
  · cases h9
  injection h9 with h9 h10 h11
  injection h9 with h9
  injection h9 with h9
  subst h9 h11
  have ho : cur.toList = old := by rw [← hc4, List.take_of_length_le (by simp; omega)]
  have hl : cur.toList.length = n * size := by simpa using hc3
  refine ⟨cur, hg, hc3, ⟨?_, .inr ⟨g, n, _, rfl, hB, setRow_heap w g cur _ elem (0, 0) hg, Nat.le_refl _, hc2, ?_, ?_⟩⟩, below_setRow (Below.refl _ _) hB _⟩
  · rw [← ho]; simp; omega
  · simp; omega
  · rw [← ho, List.take_of_length_le (by simp; omega)]
theorem wpList_copy_partK {P : Program} {w : World} {ops : Array Oper} {rest : List Oper} {o : Oper} {a : Act} {Q : Exit → Act → World → Prop} (hgd : o.guard = none) (d s : Operand) (dT sT : TypeId)
    (ho : o.op = .call { callee := .builtin .copy, args := #[d, s], argTypes := #[dT, sT] }) (elem : TypeId) (hu : P.underlying dT = some (.slice elem)) (size : Nat) (hsz : (P.info? elem).map (·.size) = some size)
    (B g n : Nat) (old : List Value) (hown : w.ownsRow B elem size (.slice (some ⟨g, 0, none⟩) n n) n old) (off m m1 m2 dCap : Nat) (ad : Addr) (sCap : Nat) (hd : a.eval d = .slice (some ⟨g, off, none⟩) m1 dCap) (hs : a.eval s = .slice (some ad) m2 sCap)
    (hm : min m1 m2 = m) (cs : List Value) (hcs : cs.length = m * size) (hfit : off + cs.length ≤ n * size) (hsrc : ∀ j v, cs[j]? = some v → w.cell? (ad.add j) = some v) (h1 : ∀ v ∈ cs, v.oneCell' = true)
    (h : ∀ w', w'.ownsRow B elem size (.slice (some ⟨g, 0, none⟩) n n) n (old.take off ++ cs ++ old.drop (off + cs.length)) → Below B w w' → wpList P ops Q rest (a.put o.dst (goInt m)) w') : wpList P ops Q (o :: rest) a w := by
  refine wpList_plain hgd fun K hK => ?_
  obtain ⟨cur, hg, hc, h9, h8⟩ := own_copied hown hfit
  have hrun := run_copy_part (P := P) w dT sT o.type elem size g off m m1 m2 dCap ad sCap cur elem cs hu hsz hg hm hcs hsrc (by rw [hc]; exact hfit) h1
  have hpost := h _ h9 h8
  unfold Oper.wp
  simp [-List.append_assoc, execOp, ho, resolve, invoke, builtin, hd, hs, hrun, Result.andThen]
  exact hK _ _ hpost
theorem step_copyK {P : Program} {ops : Array Oper} {o : Oper} {a : Act} {w : World} {K : Act → World → Prop} {Q : Exit → Act → World → Prop} {E : Prop}
    (hgd : o.guard = none) (d s : Operand) (dT sT : TypeId) (ho : o.op = Op.call { callee := Callee.builtin Builtin.copy, args := #[d, s], argTypes := #[dT, sT] })
    (elem : TypeId) (hu : P.underlying dT = some (.slice elem)) (size : Nat) (hsz : (P.info? elem).map (·.size) = some size)
    (B g n : Nat) (old : List Value) (hown : w.ownsRow B elem size (.slice (some ⟨g, 0, none⟩) n n) n old) (off m m1 m2 dCap : Nat) (ad : Addr) (sCap : Nat) (hd : a.eval d = .slice (some ⟨g, off, none⟩) m1 dCap) (hs : a.eval s = .slice (some ad) m2 sCap)
    (hm : min m1 m2 = m) (cs : List Value) (hcs : cs.length = m * size) (hfit : off + cs.length ≤ n * size) (hsrc : ∀ j v, cs[j]? = some v → w.cell? (ad.add j) = some v) (h1 : ∀ v ∈ cs, v.oneCell' = true)
    (hK : ∀ w', w'.ownsRow B elem size (.slice (some ⟨g, 0, none⟩) n n) n (old.take off ++ cs ++ old.drop (off + cs.length)) → Below B w w' → K (a.put o.dst (goInt m)) w') :
    if Region.wanted o (yielded ops a.tmps) = true then Oper.wp P o a w K Q else E := by
  have hw : Region.wanted o (yielded ops a.tmps) = true := by simp [Region.wanted, hgd]
  rw [if_pos hw]
  obtain ⟨cur, hg, hc, h9, h8⟩ := own_copied hown hfit
  have hrun := run_copy_part (P := P) w dT sT o.type elem size g off m m1 m2 dCap ad sCap cur elem cs hu hsz hg hm hcs hsrc (by rw [hc]; exact hfit) h1
  have hpost := hK _ h9 h8
  unfold Oper.wp
  simp [-List.append_assoc, execOp, ho, resolve, invoke, builtin, hd, hs, hrun, Result.andThen]
  exact hpost
end Go.Proofs.Ytkpendpjdemknaa
