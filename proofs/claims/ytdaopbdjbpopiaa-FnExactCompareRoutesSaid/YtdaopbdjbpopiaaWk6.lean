/- Routes: their length and their nodes: contracts of the specification and of the implementation. No condition but those typed. -/
import Derived.Test.YtdaopbdjbpopiaaWk5
import Derived.Test.YtdaopbdjbpopiaaIntW
import Derived.StillTailTactics
namespace Go.Proofs.Ytdaopbdjbpopiaa
open Go.ChangeShapes Go.WideShapes Go.ChangeAt Go.RowKit

theorem walkR_mem {fs : List Q4} : ∀ {fl ns vs : List Int}, walkR fs fl ns = some vs → ∀ x ∈ fl, 0 ≤ x ∧ x < fs.length
  | [], _, _, _, x, hx => by simp at hx
  | y :: r, ns, vs, h, x, hx => by
    cases hs : stepO fs ns y with
    | none => rw [walkR_none hs] at h; exact absurd h (by simp)
    | some nx =>
      rw [walkR_some hs] at h
      rcases List.mem_cons.1 hx with rfl | hx
      · unfold stepO at hs
        split at hs
        · rename_i hc; exact hc.1
        · exact absurd hs (by simp)
      · exact walkR_mem h x hx
theorem routeN_mem {n1 : Nat} {fs : List Q4} {st : Int} {fl vs : List Int} (h : routeN n1 fs st fl = some vs) : ∀ x ∈ fl, 0 ≤ x ∧ x < fs.length := by
  unfold routeN at h
  split at h
  · exact walkR_mem h
  · exact absurd h (by simp)
theorem walkR_len {fs : List Q4} : ∀ {fl ns vs : List Int}, walkR fs fl ns = some vs → vs.length = fl.length + ns.length
  | [], ns, vs, h => by rw [walkR] at h; injection h with h; subst h; simp
  | y :: r, ns, vs, h => by
    cases hs : stepO fs ns y with
    | none => rw [walkR_none hs] at h; exact absurd h (by simp)
    | some nx =>
      rw [walkR_some hs] at h
      have := walkR_len h
      rw [this, List.length_cons, List.length_cons]; omega
theorem routeN_len {n1 : Nat} {fs : List Q4} {st : Int} {fl vs : List Int} (h : routeN n1 fs st fl = some vs) : vs.length = fl.length + 1 := by
  unfold routeN at h
  split at h
  · exact walkR_len h
  · exact absurd h (by simp)
theorem lenX_app (fs : List Q4) (a b : List Int) : lenX fs (a ++ b) = lenX fs a + lenX fs b := by unfold lenX; rw [List.map_append, List.sum_append]
theorem lenX_rev (fs : List Q4) : ∀ a : List Int, lenX fs a.reverse = lenX fs a
  | [] => rfl
  | x :: a => by rw [List.reverse_cons, lenX_app, lenX_rev fs a, lenX_cons, lenX_cons]; unfold lenX; simp; omega
theorem lenX_snoc (fs : List Q4) (fl : List Int) (k : Nat) (h : k < fl.length) : lenX fs (fl.take (k + 1)) = lenX fs (fl.take k) + (fibI fs fl[k]).c := by
  rw [List.take_succ_eq_append_getElem h, lenX_app]; unfold lenX; simp
noncomputable def rlenI (ss : List ByteArray) (fs : List Q4) (st : Int) (fl : List Int) : Int := if routeB ss fs st fl then lenX fs fl else 0
noncomputable def rlenR (ss : List ByteArray) (fs : List Q4) (st : Int) (fl : List Int) : Value := .tuple #[.int .i64 (rlenI ss fs st fl), .bool (routeB ss fs st fl)]
theorem rlen_no {ss : List ByteArray} {fs : List Q4} {st : Int} {fl : List Int} (h : routeB ss fs st fl = false) : (.tuple #[.int .i64 0, .bool false] : Value) = rlenR ss fs st fl := by
  unfold rlenR rlenI; rw [h]; rfl
theorem rlen_yes {ss : List ByteArray} {fs : List Q4} {st : Int} {fl : List Int} (h : routeB ss fs st fl = true) : (.tuple #[.int .i64 (lenX fs fl), .bool true] : Value) = rlenR ss fs st fl := by
  unfold rlenR rlenI; rw [h]; rfl
theorem routeB_yes {ss : List ByteArray} {fs : List Q4} {st : Int} {fl : List Int} (h : routeB ss fs st fl = true) : netP ss fs ∧ ∃ vs, routeN ss.length fs st fl = some vs := by
  unfold routeB at h
  rw [Bool.and_eq_true] at h
  exact ⟨of_pb h.1, Option.isSome_iff_exists.1 h.2⟩
theorem routeB_no {ss : List ByteArray} {fs : List Q4} {st : Int} {fl : List Int} (hv : netP ss fs) (h : routeN ss.length fs st fl = none) : routeB ss fs st fl = false := by
  unfold routeB; rw [h]; exact Bool.and_false _
theorem routeB_some {ss : List ByteArray} {fs : List Q4} {st : Int} {fl vs : List Int} (hv : netP ss fs) (h : routeN ss.length fs st fl = some vs) : routeB ss fs st fl = true := by
  unfold routeB; rw [h, pb_true hv]; rfl
theorem routeB_net {ss : List ByteArray} {fs : List Q4} {st : Int} {fl : List Int} (hv : ¬ netP ss fs) : routeB ss fs st fl = false := by
  unfold routeB; rw [pb_false hv]; rfl

set_option maxRecDepth 100000 in
set_option maxHeartbeats 4000000 in
theorem l4Length_ {g1 g2 n1 n2 c1 c2 : Nat} {ss : List ByteArray} {fs : List Q4} {w : World} (h : NetAt g1 g2 n1 n2 c1 c2 ss fs w) (hv : netP ss fs) (st : Int)
    {A : Option Addr} {n c : Nat} {fl : List Int} (hn : fl.length = n) (hr : Rd w w.heap.size A (fl.map (Value.int .i64))) (hx : n ≤ 1048576) (hm : ∀ x ∈ fl, 0 ≤ x ∧ x < fs.length) :
    Calls Try.prog 173 #[.agg #[.slice (some ⟨g1, 0, none⟩) n1 c1, .slice (some ⟨g2, 0, none⟩) n2 c2], .agg #[.int .i64 st, .slice A n c]] w (RetP (.int .i64 (lenX fs fl)) w) := by
  have HN := Lib.hid hn; have HNT := Lib.hid h; have HR := Lib.hid hr; have HV := Lib.hid hv; have HM := Lib.hid hm
  have HLN := Lib.hid h.ln2
  clear hn h hr hv hm
  obtain ⟨r, hrr⟩ : ∃ r, lenX fs fl = r := ⟨_, rfl⟩
  rw [hrr]
  have HRR := Lib.hid hrr
  clear hrr
  go_enter Try.func173, Try.ntmps173
  go_wp2
  obtain ⟨W0, hW0⟩ : ∃ W0, (w.alloc (Obj.cells #[.slice (some ⟨g1, 0, none⟩) n1 c1, .slice (some ⟨g2, 0, none⟩) n2 c2] 32)).alloc (Obj.cells #[.int .i64 st, .slice A n c] 45) = W0 := ⟨_, rfl⟩
  have hb0 : Below w.heap.size w W0 := by rw [← hW0]; exact ((Below.refl _ _).alloc (Nat.le_refl _) _).alloc (by simp) _
  have k0 : W0.cell? ⟨w.heap.size, 0, none⟩ = some (.slice (some ⟨g1, 0, none⟩) n1 c1) := by rw [← hW0]; simp [go_sem]
  have k1 : W0.cell? ⟨w.heap.size, 1, none⟩ = some (.slice (some ⟨g2, 0, none⟩) n2 c2) := by rw [← hW0]; simp [go_sem]
  have k2 : W0.cell? ⟨w.heap.size + 1, 0, none⟩ = some (.int .i64 st) := by rw [← hW0]; simp [go_sem]
  have k3 : W0.cell? ⟨w.heap.size + 1, 1, none⟩ = some (.slice A n c) := by rw [← hW0]; simp [go_sem]
  have hz0 : w.heap.size + 1 < W0.heap.size := by rw [← hW0]; simp
  have HB0 := Lib.hid hb0; have HK0 := Lib.hid k0; have HK1 := Lib.hid k1; have HK2 := Lib.hid k2; have HK3 := Lib.hid k3; have HZ0 := Lib.hid hz0
  rw [hW0]
  clear hW0 hb0 k0 k1 k2 k3 hz0
  go_loopw [5, 6] (fun v i wr => ∃ (k : Nat) (s : Int), k ≤ n ∧ i = .int .i64 k ∧ v = .int .i64 s ∧ Hid (s = lenX fs (fl.take k)) ∧ 0 ≤ s ∧ s ≤ 5000 * (k : Int) ∧ Below W0.heap.size W0 wr) (fun _ i _ => n - (intOf i).toNat)
  case atStart => exact ⟨0, 0, Nat.zero_le _, rfl, rfl, Lib.hid (by simp [lenX]), by omega, by omega, Below.refl _ _⟩
  case round =>
    obtain ⟨k, s, hk, rfl, rfl, HS, hs0, hs1, hb⟩ := hrel
    have k0 := (hb.cell (p := ⟨w.heap.size, 0, none⟩) (by show w.heap.size < _; have := HZ0.out; omega)).trans HK0.out
    have k1 := (hb.cell (p := ⟨w.heap.size, 1, none⟩) (by show w.heap.size < _; have := HZ0.out; omega)).trans HK1.out
    have k2 := (hb.cell (p := ⟨w.heap.size + 1, 0, none⟩) (by show w.heap.size + 1 < _; have := HZ0.out; omega)).trans HK2.out
    have k3 := (hb.cell (p := ⟨w.heap.size + 1, 1, none⟩) (by show w.heap.size + 1 < _; have := HZ0.out; omega)).trans HK3.out
    by_cases hlt : k < n
    case neg =>
      have hkn : k = n := by omega
      have HE : Hid (s = r) := Lib.hid (by rw [HS.out, ← HRR.out, List.take_of_length_le (by have := HN.out; omega)])
      clear hkn
      go_wp2
      go_ret
      exact ⟨reti HE.out, HB0.out.trans (hb.mono HB0.out.size)⟩
    case pos =>
    have hkl : k < fl.length := by have := HN.out; omega
    have HBW := Lib.hid (HB0.out.trans (hb.mono HB0.out.size))
    obtain ⟨ad, hA, hbl, hcell⟩ := ints_at HR.out hkl
    subst hA
    rw [← HBW.out.cell (by rw [addBlock]; exact hbl)] at hcell
    have HSN := Lib.hid (lenX_snoc fs fl k hkl)
    have hmx := HM.out fl[k] (List.getElem_mem hkl)
    obtain ⟨x, hx⟩ : ∃ x, fl[k]'hkl = x := ⟨_, rfl⟩
    rw [hx] at hcell hmx HSN
    obtain ⟨m, rfl⟩ : ∃ m : Nat, x = m := ⟨x.toNat, by omega⟩
    have hml : m < fs.length := by omega
    have hmn : (m : Int) < n2 := by have := HLN.out; omega
    obtain ⟨⟨qa, qb, qc, qd⟩, hq⟩ : ∃ q, fs[m]'hml = q := ⟨_, rfl⟩
    have HQ : Hid (fibI fs (m : Int) = ⟨qa, qb, qc, qd⟩) := Lib.hid (by
      unfold fibI
      rw [List.getD_eq_getElem?_getD, show ((m : Int)).toNat = m by omega, List.getElem?_eq_getElem hml, hq]; rfl)
    have hc5 := fib_c HV.out (m : Int)
    rw [HQ.out] at hc5
    simp only at hc5
    have hrd := (HNT.out.moved HBW.out).rd2.q4c hml
    rw [Nat.zero_add, hq] at hrd
    obtain ⟨hg2, r0, r1, r2, r3⟩ := hrd
    simp only at r0 r1 r2 r3
    have HE : Hid (s + qc = lenX fs (fl.take (k + 1))) := Lib.hid (by rw [HSN.out, HQ.out, HS.out])
    have e1 : IntKind.i64.wrap (s + qc) = s + qc := IntWalk.i64_in _ (by omega)
    clear hq hx hmx hml r0 r1 r3
    go_wp2
    go_quiet (fail)
    clear e1
    go_wp2
    go_roundw
    case rel => exact ⟨k + 1, s + qc, by omega, by go_num, rfl, HE, by omega, by omega, drewN_below hb _⟩
    case measure => simp [intOf]; omega

end Go.Proofs.Ytdaopbdjbpopiaa
