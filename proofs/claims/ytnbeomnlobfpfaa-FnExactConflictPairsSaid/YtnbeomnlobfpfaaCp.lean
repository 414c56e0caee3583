/- Requests: which of them are in conflict: contracts of ConflictPairs, both sides. No condition but those typed. -/
import Derived.Test.YtnbeomnlobfpfaaCaH
import Derived.Test.YtnbeomnlobfpfaaGB
import Derived.Test.YtnbeomnlobfpfaaRws
namespace Go.Proofs.Ytnbeomnlobfpfaa
open Go.ChangeShapes Go.WideShapes Go.ChangeAt Go.RowKit Go.Maps

/-- an answer: a list of pairs and a word. -/
def PairsP (L : List Q2) (b : Bool) (w : World) (e : Ending) (w' : World) : Prop :=
  ∃ (A : Option Addr) (N c : Nat), e = .returned (.tuple #[.slice A N c, .bool b]) ∧ Hid (N = L.length) ∧ w'.ownsRow w.heap.size 133 2 (.slice A N c) N (L.flatMap Q2.cells) ∧ Below w.heap.size w w'
theorem pairs_no {L : List Q2} {b : Bool} {w w' : World} (h : L = [] ∧ b = false) (hb : Below w.heap.size w w') : PairsP L b w (.returned (.tuple #[.slice none 0 0, .bool false])) w' := by
  obtain ⟨rfl, rfl⟩ := h
  exact ⟨none, 0, 0, rfl, Lib.hid rfl, World.ownsRow_nil _ _ _ _, hb⟩
theorem Try.inf_a2 : (Try.prog.info? 133).map (fun i => (i.zero, i.size, i.bytes)) = some (some (.agg #[.int .i64 0, .int .i64 0]), 2, 16) := by kernel_rfl
theorem new_two (W : World) (E : TypeId) (u0 u1 : Value) (b : Nat) (hb : W.heap.size = b) : ∀ (j : Nat) (u : Value), [u0, u1][j]? = some u → (W.alloc (.cells #[u0, u1] E)).cell? ⟨b, j, none⟩ = some u := by
  subst hb
  intro j u hu
  match j, hu with
  | 0, hu => simp at hu; subst hu; simp [go_sem]
  | 1, hu => simp at hu; subst hu; simp [go_sem]
theorem two_one (a b : Int) : ∀ u ∈ [Value.int .i64 a, Value.int .i64 b], u.oneCell' = true := by
  intro u hu; simp at hu; rcases hu with rfl | rfl <;> rfl
theorem one_rowQ (w : World) (a b d : Value) {base : Nat} (hb : base ≤ w.heap.size) : (w.alloc (.cells #[a, b, d] 132)).ownsRow base 132 3 (.slice (some ⟨w.heap.size, 0, none⟩) 1 1) 1 [a, b, d] := by
  have := World.ownsRow_lit (base := base) (e := 132) (size := 3) w #[a, b, d] 1 hb (by unfold maxLen; omega) rfl
  simpa using this
def cpR (ds : List RqD) (i k : Nat) : List Q2 := ((List.range k).filter fun j => decide (i < j) && cfB (rqn ds i) (rqn ds j)).map fun (j : Nat) => ⟨(i : Int), (j : Int)⟩
theorem cp_start (ds : List RqD) (i : Nat) : cpR ds i (i + 1) = [] := by
  unfold cpR
  rw [List.filter_eq_nil_iff.2 (fun j hj => by have := List.mem_range.1 hj; simp; omega)]; rfl
theorem cp_yes {ds : List RqD} {i k : Nat} (hi : i < k) (h : cfB (rqn ds i) (rqn ds k) = true) : cpR ds i (k + 1) = cpR ds i k ++ [⟨(i : Int), (k : Int)⟩] := by
  unfold cpR
  rw [List.range_succ, List.filter_append, List.map_append]
  simp [hi, h]
theorem cp_no {ds : List RqD} {i k : Nat} (h : cfB (rqn ds i) (rqn ds k) = false) : cpR ds i (k + 1) = cpR ds i k := by
  unfold cpR
  rw [List.range_succ, List.filter_append, List.map_append]
  simp [h]
theorem cpR_len (ds : List RqD) (i k : Nat) : (cpR ds i k).length ≤ k := by
  unfold cpR
  rw [List.length_map]
  exact Nat.le_trans (List.length_filter_le _ _) (by rw [List.length_range]; exact Nat.le_refl _)
def cpA (ds : List RqD) (i : Nat) : List Q2 := (List.range i).flatMap fun a => cpR ds a ds.length
theorem cpA_snoc (ds : List RqD) (i : Nat) : cpA ds (i + 1) = cpA ds i ++ cpR ds i ds.length := by
  unfold cpA; rw [List.range_succ, List.flatMap_append]; simp
theorem cpA_len (ds : List RqD) : ∀ i, (cpA ds i).length ≤ i * ds.length
  | 0 => by unfold cpA; simp
  | i + 1 => by
    have ih := cpA_len ds i
    have := cpR_len ds i ds.length
    rw [cpA_snoc, List.length_append, Nat.succ_mul]; omega
noncomputable def cpL (ss : List ByteArray) (fs : List Q4) (ds : List RqD) : List Q2 := if reqsB ss fs ds then cpA ds ds.length else []
theorem cpL_no {ss : List ByteArray} {fs : List Q4} {ds : List RqD} (h : reqsB ss fs ds = false) : cpL ss fs ds = [] := by unfold cpL; rw [h]; rfl
theorem cpL_yes {ss : List ByteArray} {fs : List Q4} {ds : List RqD} (h : reqsB ss fs ds = true) : cpL ss fs ds = cpA ds ds.length := by unfold cpL; rw [h]; rfl
theorem cpL_len (ss : List ByteArray) (fs : List Q4) (ds : List RqD) : (cpL ss fs ds).length ≤ 49 := by
  cases h : reqsB ss fs ds
  · rw [cpL_no h]; simp
  · rw [cpL_yes h]
    have h1 := (reqs_facts h).2.1
    have h2 := cpA_len ds ds.length
    have h3 := Nat.mul_le_mul h1 h1
    omega

set_option maxRecDepth 100000 in
set_option maxHeartbeats 4000000 in
theorem specCP {g1 g2 n1 n2 c1 c2 : Nat} {ss : List ByteArray} {fs : List Q4} {w : World} (h : NetAt g1 g2 n1 n2 c1 c2 ss fs w) {B g n : Nat} {ys : List Rq} {ds : List RqD} (hT : Rqs B g n ys w) (hd : ys.map Rq.d = ds) (hs : n ≤ 1048576) :
    Calls Try.prog 20 #[.agg #[.slice (some ⟨g1, 0, none⟩) n1 c1, .slice (some ⟨g2, 0, none⟩) n2 c2], .slice (some ⟨g, 0, none⟩) n n] w (PairsP (cpL ss fs ds) (reqsB ss fs ds) w) := by
  have HNT := Lib.hid h; have HT := Lib.hid hT; have HD := Lib.hid hd
  have HLD : Hid (ds.length = n) := Lib.hid (by rw [← hd, List.length_map]; exact hT.len)
  clear h hT hd
  obtain ⟨L, hL⟩ : ∃ r, cpL ss fs ds = r := ⟨_, rfl⟩
  obtain ⟨v, hv⟩ : ∃ r, reqsB ss fs ds = r := ⟨_, rfl⟩
  have HLL := Lib.hid hL; have HVB := Lib.hid hv
  rw [hL, hv]
  clear hL hv
  go_enter Try.func20, Try.ntmps20
  go_wp2_with fail
  obtain ⟨W0, hW0⟩ : ∃ W0, (w.alloc (Obj.cells #[.slice (some ⟨g1, 0, none⟩) n1 c1, .slice (some ⟨g2, 0, none⟩) n2 c2] 34)).alloc (Obj.cells #[] 133) = W0 := ⟨_, rfl⟩
  have hb0 : Below w.heap.size w W0 := by rw [← hW0]; exact ((Below.refl _ _).alloc (Nat.le_refl _) _).alloc (by simp) _
  have hz0 : w.heap.size + 1 < W0.heap.size := by rw [← hW0]; simp
  have hown0 : W0.ownsRow (w.heap.size + 1) 133 2 (.slice (some ⟨w.heap.size + 1, 0, none⟩) 0 0) 0 [] := by
    rw [← hW0]
    have := World.ownsRow_lit (base := w.heap.size + 1) (e := 133) (size := 2) (w.alloc (Obj.cells #[.slice (some ⟨g1, 0, none⟩) n1 c1, .slice (some ⟨g2, 0, none⟩) n2 c2] 34)) #[] 0 (by simp) (by unfold maxLen; omega) rfl
    simpa using this
  have HO0 := Lib.hid hown0
  clear hown0
  have HB0 := Lib.hid hb0
  rw [hW0]
  clear hW0 hb0
  have CG := Lib.hid (l12Good_ (HNT.out.moved HB0.out) (HT.out.moved HB0.out) HD.out hs)
  rw [HVB.out] at CG
  refine CG.out.mono ?_
  rintro e w1 ⟨rfl, hb1⟩
  have HB1 := Lib.hid (HB0.out.trans (hb1.mono HB0.out.size))
  have HO1 := Lib.hid (ownB HO0.out hb1)
  have hzw : w.heap.size + 1 < w1.heap.size := Nat.lt_of_lt_of_le hz0 hb1.size
  clear hb1 hz0
  cases v
  case false =>
    have HNL : Hid (L = []) := Lib.hid (by rw [← HLL.out, cpL_no HVB.out])
    obtain rfl := HNL.out
    go_wp2
    go_ret2
    exact ⟨_, 0, _, rfl, Lib.hid rfl, own_base HO1.out (by omega), HB1.out⟩
  case true =>
  have HF := Lib.hid (reqs_facts HVB.out)
  have hn7 : n ≤ 7 := by have := HF.out.2.1; have := HLD.out; omega
  have HLA : Hid (L = cpA ds n) := Lib.hid (by rw [← HLL.out, cpL_yes HVB.out, HLD.out])
  have HZW := Lib.hid hzw
  clear hzw
  go_wp2
  go_loopw [6, 7] (fun v l wr => ∃ (i N c1 : Nat) (A1 : Option Addr), i ≤ n ∧ l = .int .i64 i ∧ v = .slice A1 N c1 ∧ Hid (N = (cpA ds i).length) ∧ Hid (wr.ownsRow (w.heap.size + 1) 133 2 (.slice A1 N c1) N ((cpA ds i).flatMap Q2.cells)) ∧ Below (w.heap.size + 1) w1 wr) (fun _ l _ => n - (intOf l).toNat)
  case atStart => exact ⟨0, 0, _, _, Nat.zero_le _, rfl, rfl, Lib.hid rfl, HO1, Below.refl _ _⟩
  case round =>
    obtain ⟨i, N, c1, A1, hi, rfl, rfl, HNN, HOW, hb⟩ := hrel
    have HBR := Lib.hid hb
    have HSZ : Hid ((w.heap.size + 1) ≤ wr.heap.size) := Lib.hid (by have := hb.size; have := HZW.out; omega)
    have HBRW := Lib.hid (HB1.out.trans (hb.mono (by have := HZW.out; omega)))
    clear hb
    have hN49 : N ≤ 49 := by have h1 := cpA_len ds i; have h2 := HNN.out; have h3 := HLD.out; have h4 := Nat.mul_le_mul (show i ≤ 7 by omega) hn7; rw [h3] at h1; omega
    by_cases hlt : i < n
    case neg =>
      obtain rfl : i = n := by omega
      obtain rfl := HLA.out
      clear hlt
      go_wp2
      go_ret2
      exact ⟨A1, N, c1, rfl, HNN, own_base HOW.out (by have := HZW.out; omega), HBRW.out⟩
    case pos =>
    have hil : i < ys.length := by have := HT.out.len; omega
    go_wp2
    obtain ⟨wo, rfl⟩ : ∃ wo, wo = wr := ⟨wr, rfl⟩
    go_loopw [6, 8] (fun v l wv => ∃ (k N c1 : Nat) (A1 : Option Addr), i < k ∧ k ≤ n ∧ l = .int .i64 k ∧ v = .slice A1 N c1 ∧ Hid (N = (cpA ds i ++ cpR ds i k).length) ∧ Hid (wv.ownsRow (w.heap.size + 1) 133 2 (.slice A1 N c1) N ((cpA ds i ++ cpR ds i k).flatMap Q2.cells)) ∧ Below (w.heap.size + 1) w1 wv) (fun _ l _ => n - (intOf l).toNat)
    case atStart => exact ⟨i + 1, N, c1, A1, by omega, by omega, by go_num, rfl, Lib.hid (by rw [cp_start, List.append_nil]; exact HNN.out), Lib.hid (by rw [cp_start, List.append_nil]; exact HOW.out), HBR.out⟩
    case round =>
      clear HBR HBRW HSZ HOW hN49 HNN
      obtain ⟨k, N, c1, A1, hik, hk, rfl, rfl, HNN, HOW, hb⟩ := hrel
      have HBR := Lib.hid hb
      have HSZ : Hid ((w.heap.size + 1) ≤ wr.heap.size) := Lib.hid (by have := hb.size; have := HZW.out; omega)
      have HBRW := Lib.hid (HB1.out.trans (hb.mono (by have := HZW.out; omega)))
      clear hb
      have hN56 : N ≤ 56 := by have h1 := cpA_len ds i; have h2 := HNN.out; have h3 := HLD.out; have h4 := Nat.mul_le_mul (show i ≤ 7 by omega) hn7; have h5 := cpR_len ds i k; rw [h3] at h1; rw [List.length_append] at h2; omega
      by_cases hlk : k < n
      case neg =>
        obtain rfl : k = n := by omega
        have HS : Hid (cpA ds i ++ cpR ds i k = cpA ds (i + 1)) := Lib.hid (by rw [cpA_snoc, HLD.out])
        rw [HS.out] at HNN HOW
        clear hlk
        go_wp2
        go_roundw
        case rel => exact ⟨i + 1, N, c1, A1, by omega, by go_num, rfl, HNN, HOW, HBR.out⟩
        case measure => simp [intOf]; omega
      case pos =>
      have hkl : k < ys.length := by have := HT.out.len; omega
      obtain ⟨T, f, x0, hx0, hTT, HST⟩ := above wr
      haveI : Nonempty T := ⟨x0⟩
      have HXX := Lib.hid hx0
      have HBX : Hid (∀ x, Below w.heap.size w (f x)) := Lib.hid (fun x => HBRW.out.trans ((hTT x).mono HBRW.out.size))
      have HTX : Hid (∀ x, Below wr.heap.size wr (f x)) := Lib.hid hTT
      clear hTT hx0
      obtain ⟨hyna, hysa, hyra⟩ := HT.out.at_ ys[i] (List.getElem_mem hil)
      obtain ⟨ya, hyea⟩ : ∃ y, ys[i]'hil = y := ⟨_, rfl⟩
      have HKa := Lib.hid (rqn_at HD.out hil hyea)
      rw [hyea] at hyna hysa hyra
      have hra : ∀ x, (f x).cell? ⟨g, i * 3, none⟩ = some (.int .i64 ya.p0) ∧ (f x).cell? ⟨g, i * 3 + 1, none⟩ = some (.slice ya.A ya.n ya.c) ∧ (f x).cell? ⟨g, i * 3 + 2, none⟩ = some (.int .i64 ya.q0) := fun x => by
        obtain ⟨_, f0, f1, f2⟩ := (HT.out.moved (HBX.out x)).rd.rqc hil
        rw [Nat.zero_add, hyea] at f0 f1 f2
        exact ⟨f0, f1, f2⟩
      obtain ⟨p0, A, mm, cc, zs, q0⟩ := ya
      simp only at hra hyna hysa hyra
      have ra0 := fun x => (hra x).1
      have ra1 := fun x => (hra x).2.1
      have ra2 := fun x => (hra x).2.2
      clear hra hyea
      obtain ⟨hynb, hysb, hyrb⟩ := HT.out.at_ ys[k] (List.getElem_mem hkl)
      obtain ⟨yb, hyeb⟩ : ∃ y, ys[k]'hkl = y := ⟨_, rfl⟩
      have HKb := Lib.hid (rqn_at HD.out hkl hyeb)
      rw [hyeb] at hynb hysb hyrb
      have hrb : ∀ x, (f x).cell? ⟨g, k * 3, none⟩ = some (.int .i64 yb.p0) ∧ (f x).cell? ⟨g, k * 3 + 1, none⟩ = some (.slice yb.A yb.n yb.c) ∧ (f x).cell? ⟨g, k * 3 + 2, none⟩ = some (.int .i64 yb.q0) := fun x => by
        obtain ⟨_, f0, f1, f2⟩ := (HT.out.moved (HBX.out x)).rd.rqc hkl
        rw [Nat.zero_add, hyeb] at f0 f1 f2
        exact ⟨f0, f1, f2⟩
      obtain ⟨p1, A2, m2, c2, ks, q1⟩ := yb
      simp only at hrb hynb hysb hyrb
      have rb0 := fun x => (hrb x).1
      have rb1 := fun x => (hrb x).2.1
      have rb2 := fun x => (hrb x).2.2
      clear hrb hyeb
      have CF : Hid (∀ x, Calls Try.prog 85 #[.agg #[.int .i64 p0, .slice A mm cc, .int .i64 q0], .agg #[.int .i64 p1, .slice A2 m2 c2, .int .i64 q1]] (f x) (RetP (.bool (zs.any fun f => decide (f ∈ ks))) (f x))) := Lib.hid fun x =>
        cf12_ p0 q0 p1 q1 hyna hysa (hyra.moved (HBX.out x)) hynb hysb (hyrb.moved (HBX.out x))
      obtain ⟨b, hbe⟩ : ∃ b, (zs.any fun f => decide (f ∈ ks)) = b := ⟨_, rfl⟩
      rw [hbe] at CF
      have HCB : Hid (cfB (rqn ds i) (rqn ds k) = b) := Lib.hid (by rw [HKa.out, HKb.out]; exact hbe)
      clear hyna hysa hyra hynb hysb hyrb hbe
      cases b
      case false =>
        have HST2 : Hid (cpR ds i (k + 1) = cpR ds i k) := Lib.hid (cp_no HCB.out)
        rw [← HST2.out] at HNN HOW
        go_wp2_with fail
        refine wp_region_class f (by kernel_rfl) (by kernel_rfl) x0 HXX.out ?_
        repeat (go_big_quiet_step (first | (go_at_call 85; exact Calls.inClass HST (CF.out _))))
        refine wpQuiet_nil ?_
        rintro _ ⟨t, rfl⟩
        have HB3 := Lib.hid (HBR.out.trans ((HTX.out t).mono HSZ.out))
        have HOW3 := Lib.hid (ownB HOW.out (HTX.out t))

        clear ra0 ra1 ra2 rb0 rb1 rb2
        go_wp2
        go_roundw
        case rel => exact ⟨k + 1, N, c1, A1, by omega, by omega, by go_num, rfl, HNN, HOW3, HB3.out⟩
        case measure => simp [intOf]; omega
      case true =>
        have HST2 : Hid (cpR ds i (k + 1) = cpR ds i k ++ [⟨(i : Int), (k : Int)⟩]) := Lib.hid (cp_yes hik HCB.out)
        go_wp2_with fail
        refine wp_region_class f (by kernel_rfl) (by kernel_rfl) x0 HXX.out ?_
        repeat (go_big_quiet_step (first | (go_at_call 85; exact Calls.inClass HST (CF.out _))))
        refine wpQuiet_nil ?_
        rintro _ ⟨t, rfl⟩
        have HB3 := Lib.hid (HBR.out.trans ((HTX.out t).mono HSZ.out))
        have HOW3 := Lib.hid (ownB HOW.out (HTX.out t))

        have HS3 : Hid ((w.heap.size + 1) ≤ (f t).heap.size) := Lib.hid (by have := (HTX.out t).size; have := HSZ.out; omega)
        clear ra0 ra1 ra2 rb0 rb1 rb2
        generalize f t = w2 at HB3 HOW3 HS3 ⊢
        go_wp2_with (at_builtin; refine wp_app rfl (.tmp 38) (.tmp 42) 44 133 rfl (w.heap.size + 1) Try.underlying44 Try.inf_a2 rfl (by decide) (by decide) _ N _ rfl (HOW3.out.alloc _) _ _ [.int .i64 (i : Int), .int .i64 (k : Int)] rfl rfl (new_two _ _ _ _ _ rfl) (two_one _ _) (by omega) (by have := HS3.out; simp; omega) ?_)
        intro A2' d2 N2 w3 hN2 hown2 hgrow2 hloc2
        subst hN2
        have hB3 : Below (w.heap.size + 1) w1 w3 := (HB3.out.alloc HS3.out _).grown hgrow2 (by have := HS3.out; simp; omega) (fun g hg => (HOW3.out.lt g hg).1)
        have HNN3 : Hid (N + 1 = (cpA ds i ++ cpR ds i (k + 1)).length) := Lib.hid (by rw [HST2.out, ← List.append_assoc, List.length_append, ← HNN.out]; rfl)
        have HOW4 : Hid (w3.ownsRow (w.heap.size + 1) 133 2 (.slice A2' (N + 1) d2) (N + 1) ((cpA ds i ++ cpR ds i (k + 1)).flatMap Q2.cells)) := Lib.hid (by rw [HST2.out, ← List.append_assoc, List.flatMap_append, List.flatMap_append, List.append_assoc]; exact hown2)

        clear hown2 hgrow2 hloc2
        obtain ⟨N3, hN3⟩ : ∃ N3, N + 1 = N3 := ⟨_, rfl⟩
        rw [hN3] at HNN3 HOW4 ⊢
        clear hN3
        go_wp2
        go_roundw
        case rel => exact ⟨k + 1, N3, d2, A2', by omega, by omega, by go_num, rfl, HNN3, HOW4, hB3⟩
        case measure => simp [intOf]; omega

set_option maxRecDepth 100000 in
set_option maxHeartbeats 4000000 in
theorem implCP {g1 g2 n1 n2 c1 c2 : Nat} {ss : List ByteArray} {fs : List Q4} {w : World} (h : NetAt g1 g2 n1 n2 c1 c2 ss fs w) {B g n : Nat} {ys : List Rq} {ds : List RqD} (hT : Rqs B g n ys w) (hd : ys.map Rq.d = ds) (hs : n ≤ 1048576) :
    Calls Try.prog 23 #[.agg #[.slice (some ⟨g1, 0, none⟩) n1 c1, .slice (some ⟨g2, 0, none⟩) n2 c2], .slice (some ⟨g, 0, none⟩) n n] w (PairsP (cpL ss fs ds) (reqsB ss fs ds) w) := by
  have HNT := Lib.hid h; have HT := Lib.hid hT; have HD := Lib.hid hd
  have HLD : Hid (ds.length = n) := Lib.hid (by rw [← hd, List.length_map]; exact hT.len)
  clear h hT hd
  obtain ⟨L, hL⟩ : ∃ r, cpL ss fs ds = r := ⟨_, rfl⟩
  obtain ⟨v, hv⟩ : ∃ r, reqsB ss fs ds = r := ⟨_, rfl⟩
  have HLL := Lib.hid hL; have HVB := Lib.hid hv
  rw [hL, hv]
  clear hL hv
  go_enter Try.func23, Try.ntmps23
  go_wp2_with fail
  obtain ⟨W0, hW0⟩ : ∃ W0, w.alloc (Obj.cells #[.slice (some ⟨g1, 0, none⟩) n1 c1, .slice (some ⟨g2, 0, none⟩) n2 c2] 34) = W0 := ⟨_, rfl⟩
  have hb0 : Below w.heap.size w W0 := by rw [← hW0]; exact (Below.refl _ _).alloc (Nat.le_refl _) _
  have hz0 : w.heap.size < W0.heap.size := by rw [← hW0]; simp
  have HB0 := Lib.hid hb0
  rw [hW0]
  clear hW0 hb0
  have CG := Lib.hid (implReq (HNT.out.moved HB0.out) (HT.out.moved HB0.out) HD.out hs)
  rw [HVB.out] at CG
  refine CG.out.mono ?_
  rintro e w1 ⟨rfl, hb1⟩
  have HB1 := Lib.hid (HB0.out.trans (hb1.mono HB0.out.size))
  have hzw : w.heap.size < w1.heap.size := Nat.lt_of_lt_of_le hz0 hb1.size
  clear hb1 hz0
  cases v
  case false =>
    have HNL : Hid (L = []) := Lib.hid (by rw [← HLL.out, cpL_no HVB.out])
    obtain rfl := HNL.out
    go_wp2
    go_ret2
    exact pairs_no ⟨rfl, rfl⟩ HB1.out
  case true =>
  have HF := Lib.hid (reqs_facts HVB.out)
  have hn7 : n ≤ 7 := by have := HF.out.2.1; have := HLD.out; omega
  have HLA : Hid (L = cpA ds n) := Lib.hid (by rw [← HLL.out, cpL_yes HVB.out, HLD.out])
  have HME := Lib.hid (reqs_mem HVB.out)
  have HZW := Lib.hid hzw
  clear hzw
  go_wp2
  go_loopw [6, 16] (fun v l wr => ∃ (i N c1 : Nat) (A1 : Option Addr), i ≤ n ∧ l = .int .i64 i ∧ v = .slice A1 N c1 ∧ Hid (N = (cpA ds i).length) ∧ Hid (wr.ownsRow w1.heap.size 133 2 (.slice A1 N c1) N ((cpA ds i).flatMap Q2.cells)) ∧ Below w1.heap.size w1 wr) (fun _ l _ => n - (intOf l).toNat)
  case atStart => exact ⟨0, 0, _, _, Nat.zero_le _, rfl, rfl, Lib.hid rfl, (Lib.hid (World.ownsRow_nil _ _ _ _)), Below.refl _ _⟩
  case round =>
    obtain ⟨i, N, c1, A1, hi, rfl, rfl, HNN, HOW, hb⟩ := hrel
    have HBR := Lib.hid hb
    have HSZ : Hid (w1.heap.size ≤ wr.heap.size) := Lib.hid (by have := hb.size; have := HZW.out; omega)
    have HBRW := Lib.hid (HB1.out.trans (hb.mono (by have := HZW.out; omega)))
    clear hb
    have hN49 : N ≤ 49 := by have h1 := cpA_len ds i; have h2 := HNN.out; have h3 := HLD.out; have h4 := Nat.mul_le_mul (show i ≤ 7 by omega) hn7; rw [h3] at h1; omega
    by_cases hlt : i < n
    case neg =>
      obtain rfl : i = n := by omega
      obtain rfl := HLA.out
      clear hlt
      go_wp2
      go_ret2
      exact ⟨A1, N, c1, rfl, HNN, own_base HOW.out (by have := HZW.out; omega), HBRW.out⟩
    case pos =>
    have hil : i < ys.length := by have := HT.out.len; omega
    obtain ⟨hyna, hysa, hyra⟩ := HT.out.at_ ys[i] (List.getElem_mem hil)
    obtain ⟨ya, hyea⟩ : ∃ y, ys[i]'hil = y := ⟨_, rfl⟩
    have HKa := Lib.hid (rqn_at HD.out hil hyea)
    rw [hyea] at hyna hysa hyra
    obtain ⟨hg, f0, f1, f2⟩ := (HT.out.moved HBRW.out).rd.rqc hil
    rw [Nat.zero_add, hyea] at f0 f1 f2
    obtain ⟨p0, A, mm, cc, zs, q0⟩ := ya
    simp only at f0 f1 f2 hyna hysa hyra
    have HR1 := Lib.hid hyra
    clear hyra hyea
    obtain ⟨W2, hW2⟩ : ∃ W2, wr.alloc (Obj.cells #[.int .i64 p0, .slice A mm cc, .int .i64 q0] 132) = W2 := ⟨_, rfl⟩
    have hb2 : Below wr.heap.size wr W2 := by rw [← hW2]; exact (Below.refl _ _).alloc (Nat.le_refl _) _
    have HOB : Hid (W2.ownsRow w1.heap.size 132 3 (.slice (some ⟨wr.heap.size, 0, none⟩) 1 1) 1 [.int .i64 p0, .slice A mm cc, .int .i64 q0]) := Lib.hid (by rw [← hW2]; exact one_rowQ wr _ _ _ HSZ.out)
    have HB2 := Lib.hid (HBR.out.trans (hb2.mono HSZ.out))
    have HOW2 := Lib.hid (ownB HOW.out hb2)
    have HW2 := Lib.hid hW2
    have HS2 : Hid (w1.heap.size ≤ W2.heap.size) := Lib.hid (by have := hb2.size; have := HSZ.out; omega)
    clear hb2 hW2
    obtain ⟨bx, hbx⟩ : ∃ bx, wr.heap.size = bx := ⟨_, rfl⟩
    rw [hbx] at HOB
    have HBXX := Lib.hid hbx
    clear hbx
    go_wp2
    rw [HW2.out, HBXX.out]
    clear f0 f1 f2 hg
    obtain ⟨wo, rfl⟩ : ∃ wo, wo = wr := ⟨wr, rfl⟩
    go_loopw [6, 9] (fun v l wv => ∃ (k N c1 : Nat) (A1 : Option Addr), i < k ∧ k ≤ n ∧ l = .int .i64 k ∧ v = .slice A1 N c1 ∧ Hid (N = (cpA ds i ++ cpR ds i k).length) ∧ Hid (wv.ownsRow w1.heap.size 133 2 (.slice A1 N c1) N ((cpA ds i ++ cpR ds i k).flatMap Q2.cells)) ∧ Below w1.heap.size w1 wv ∧ Hid (wv.ownsRow w1.heap.size 132 3 (.slice (some ⟨bx, 0, none⟩) 1 1) 1 [.int .i64 p0, .slice A mm cc, .int .i64 q0])) (fun _ l _ => n - (intOf l).toNat)
    case atStart => exact ⟨i + 1, N, c1, A1, by omega, by omega, by go_num, rfl, Lib.hid (by rw [cp_start, List.append_nil]; exact HNN.out), Lib.hid (by rw [cp_start, List.append_nil]; exact HOW2.out), HB2.out, HOB⟩
    case round =>
      clear HBR HBRW HSZ HOW hN49 HNN HOB HOW2 HB2 HS2 HW2
      obtain ⟨k, N, c1, A1, hik, hk, rfl, rfl, HNN, HOW, hb, HOBX⟩ := hrel
      have HBR := Lib.hid hb
      have HSZ : Hid (w1.heap.size ≤ wr.heap.size) := Lib.hid (by have := hb.size; have := HZW.out; omega)
      have HBRW := Lib.hid (HB1.out.trans (hb.mono (by have := HZW.out; omega)))
      clear hb
      have hN56 : N ≤ 56 := by have h1 := cpA_len ds i; have h2 := HNN.out; have h3 := HLD.out; have h4 := Nat.mul_le_mul (show i ≤ 7 by omega) hn7; have h5 := cpR_len ds i k; rw [h3] at h1; rw [List.length_append] at h2; omega
      by_cases hlk : k < n
      case neg =>
        obtain rfl : k = n := by omega
        have HS : Hid (cpA ds i ++ cpR ds i k = cpA ds (i + 1)) := Lib.hid (by rw [cpA_snoc, HLD.out])
        rw [HS.out] at HNN HOW
        clear hlk
        go_wp2
        go_roundw
        case rel => exact ⟨i + 1, N, c1, A1, by omega, by go_num, rfl, HNN, HOW, HBR.out⟩
        case measure => simp [intOf]; omega
      case pos =>
      have hkl : k < ys.length := by have := HT.out.len; omega
      obtain ⟨T, f, x0, hx0, hTT, HST⟩ := above wr
      haveI : Nonempty T := ⟨x0⟩
      have HXX := Lib.hid hx0
      have HBX : Hid (∀ x, Below w.heap.size w (f x)) := Lib.hid (fun x => HBRW.out.trans ((hTT x).mono HBRW.out.size))
      have HTX : Hid (∀ x, Below wr.heap.size wr (f x)) := Lib.hid hTT
      clear hTT hx0
      have rc := fun x => (ownB HOBX.out (HTX.out x))
      have ra0 : ∀ x, (f x).cell? ⟨bx, 0, none⟩ = some (.int .i64 p0) := fun x => by have := (rc x).cellAt 0 (by decide); simpa using this
      have ra1 : ∀ x, (f x).cell? ⟨bx, 1, none⟩ = some (.slice A mm cc) := fun x => by have := (rc x).cellAt 1 (by decide); simpa using this
      have ra2 : ∀ x, (f x).cell? ⟨bx, 2, none⟩ = some (.int .i64 q0) := fun x => by have := (rc x).cellAt 2 (by decide); simpa using this
      clear rc
      obtain ⟨hynb, hysb, hyrb⟩ := HT.out.at_ ys[k] (List.getElem_mem hkl)
      obtain ⟨yb, hyeb⟩ : ∃ y, ys[k]'hkl = y := ⟨_, rfl⟩
      have HKb := Lib.hid (rqn_at HD.out hkl hyeb)
      rw [hyeb] at hynb hysb hyrb
      have hrb : ∀ x, (f x).cell? ⟨g, k * 3, none⟩ = some (.int .i64 yb.p0) ∧ (f x).cell? ⟨g, k * 3 + 1, none⟩ = some (.slice yb.A yb.n yb.c) ∧ (f x).cell? ⟨g, k * 3 + 2, none⟩ = some (.int .i64 yb.q0) := fun x => by
        obtain ⟨_, f0, f1, f2⟩ := (HT.out.moved (HBX.out x)).rd.rqc hkl
        rw [Nat.zero_add, hyeb] at f0 f1 f2
        exact ⟨f0, f1, f2⟩
      obtain ⟨p1, A2, m2, c2, ks, q1⟩ := yb
      simp only at hrb hynb hysb hyrb
      have rb0 := fun x => (hrb x).1
      have rb1 := fun x => (hrb x).2.1
      have rb2 := fun x => (hrb x).2.2
      clear hrb hyeb
      have CF : Hid (∀ x, Calls Try.prog 90 #[.agg #[.int .i64 p0, .slice A mm cc, .int .i64 q0], .agg #[.int .i64 p1, .slice A2 m2 c2, .int .i64 q1]] (f x) (RetP (.bool (zs.any fun f => decide (f ∈ ks))) (f x))) := Lib.hid fun x =>
        areCf_ p0 q0 p1 q1 hyna hysa (HR1.out.moved (HBX.out x)) hynb hysb (hyrb.moved (HBX.out x)) (fun j hj => by have h9 := HME.out i (by have := HLD.out; omega) j (by rw [HKa.out]; show j < zs.length; omega); rw [HKa.out] at h9; exact h9) (fun j hj => by have h9 := HME.out k (by have := HLD.out; omega) j (by rw [HKb.out]; show j < ks.length; omega); rw [HKb.out] at h9; exact h9)
      obtain ⟨b, hbe⟩ : ∃ b, (zs.any fun f => decide (f ∈ ks)) = b := ⟨_, rfl⟩
      rw [hbe] at CF
      have HCB : Hid (cfB (rqn ds i) (rqn ds k) = b) := Lib.hid (by rw [HKa.out, HKb.out]; exact hbe)
      clear hynb hysb hyrb hbe
      cases b
      case false =>
        have HST2 : Hid (cpR ds i (k + 1) = cpR ds i k) := Lib.hid (cp_no HCB.out)
        rw [← HST2.out] at HNN HOW
        go_wp2_with fail
        refine wp_region_class f (by kernel_rfl) (by kernel_rfl) x0 HXX.out ?_
        repeat (go_big_quiet_step (first | (go_at_call 90; exact Calls.inClass HST (CF.out _))))
        refine wpQuiet_nil ?_
        rintro _ ⟨t, rfl⟩
        have HB3 := Lib.hid (HBR.out.trans ((HTX.out t).mono HSZ.out))
        have HOW3 := Lib.hid (ownB HOW.out (HTX.out t))
        have HOB3 := Lib.hid (ownB HOBX.out (HTX.out t))
        clear ra0 ra1 ra2 rb0 rb1 rb2
        go_wp2
        go_roundw
        case rel => exact ⟨k + 1, N, c1, A1, by omega, by omega, by go_num, rfl, HNN, HOW3, HB3.out, HOB3⟩
        case measure => simp [intOf]; omega
      case true =>
        have HST2 : Hid (cpR ds i (k + 1) = cpR ds i k ++ [⟨(i : Int), (k : Int)⟩]) := Lib.hid (cp_yes hik HCB.out)
        go_wp2_with fail
        refine wp_region_class f (by kernel_rfl) (by kernel_rfl) x0 HXX.out ?_
        repeat (go_big_quiet_step (first | (go_at_call 90; exact Calls.inClass HST (CF.out _))))
        refine wpQuiet_nil ?_
        rintro _ ⟨t, rfl⟩
        have HB3 := Lib.hid (HBR.out.trans ((HTX.out t).mono HSZ.out))
        have HOW3 := Lib.hid (ownB HOW.out (HTX.out t))
        have HOB3 := Lib.hid (ownB HOBX.out (HTX.out t))
        have HS3 : Hid (w1.heap.size ≤ (f t).heap.size) := Lib.hid (by have := (HTX.out t).size; have := HSZ.out; omega)
        clear ra0 ra1 ra2 rb0 rb1 rb2
        generalize f t = w2 at HB3 HOW3 HS3 HOB3 ⊢
        go_wp2_with (at_builtin; refine wp_app rfl (.tmp 35) (.tmp 39) 44 133 rfl w1.heap.size Try.underlying44 Try.inf_a2 rfl (by decide) (by decide) _ N _ rfl (HOW3.out.alloc _) _ _ [.int .i64 (i : Int), .int .i64 (k : Int)] rfl rfl (new_two _ _ _ _ _ rfl) (two_one _ _) (by omega) (by have := HS3.out; simp; omega) ?_)
        intro A2' d2 N2 w3 hN2 hown2 hgrow2 hloc2
        subst hN2
        have hB3 : Below w1.heap.size w1 w3 := (HB3.out.alloc HS3.out _).grown hgrow2 (by have := HS3.out; simp; omega) (fun g hg => (HOW3.out.lt g hg).1)
        have HNN3 : Hid (N + 1 = (cpA ds i ++ cpR ds i (k + 1)).length) := Lib.hid (by rw [HST2.out, ← List.append_assoc, List.length_append, ← HNN.out]; rfl)
        have HOW4 : Hid (w3.ownsRow w1.heap.size 133 2 (.slice A2' (N + 1) d2) (N + 1) ((cpA ds i ++ cpR ds i (k + 1)).flatMap Q2.cells)) := Lib.hid (by rw [HST2.out, ← List.append_assoc, List.flatMap_append, List.flatMap_append, List.append_assoc]; exact hown2)
        have HOB4 : Hid (w3.ownsRow w1.heap.size 132 3 (.slice (some ⟨bx, 0, none⟩) 1 1) 1 [.int .i64 p0, .slice A mm cc, .int .i64 q0]) := Lib.hid ((own_type_apart (HOB3.out.alloc (Obj.cells #[.int .i64 (i : Int), .int .i64 (k : Int)] 133)) (HOW3.out.alloc (Obj.cells #[.int .i64 (i : Int), .int .i64 (k : Int)] 133)) (by decide)).kept (HOB3.out.alloc (Obj.cells #[.int .i64 (i : Int), .int .i64 (k : Int)] 133)) hgrow2)
        clear hown2 hgrow2 hloc2
        obtain ⟨N3, hN3⟩ : ∃ N3, N + 1 = N3 := ⟨_, rfl⟩
        rw [hN3] at HNN3 HOW4 ⊢
        clear hN3
        go_wp2
        go_roundw
        case rel => exact ⟨k + 1, N3, d2, A2', by omega, by omega, by go_num, rfl, HNN3, HOW4, hB3, HOB4⟩
        case measure => simp [intOf]; omega
end Go.Proofs.Ytnbeomnlobfpfaa
