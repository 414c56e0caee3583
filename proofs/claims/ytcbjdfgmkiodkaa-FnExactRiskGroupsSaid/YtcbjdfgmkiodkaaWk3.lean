/- Routes: contracts of the specification's l1Has, l4Walk, l4Good and IsValidRoute. No condition but those typed. -/
import Derived.Test.YtcbjdfgmkiodkaaWk2
import Derived.Test.YtcbjdfgmkiodkaaAt
import Derived.WalkLawsBesides
namespace Go.Proofs.Ytcbjdfgmkiodkaa
open Go.ChangeShapes Go.WideShapes Go.ChangeAt Go.RowKit

set_option maxHeartbeats 1000000 in
theorem has_ (A : Option Addr) (n c : Nat) (zs : List Int) (x : Int) (w : World) (hn : zs.length = n) (hr : Rd w w.heap.size A (zs.map (Value.int .i64))) (hs : n ≤ 1000000000000) :
    Calls Try.prog 175 #[.slice A n c, .int .i64 x] w fun e w' => e = .returned (.bool (decide (x ∈ zs))) ∧ w = w' := by
  obtain ⟨r, hr'⟩ : ∃ r, decide (x ∈ zs) = r := ⟨_, rfl⟩
  rw [hr']
  have HR := Lib.hid hr'; clear hr'
  have HN := Lib.hid hn; clear hn
  go_enter Try.func175, Try.ntmps175
  go_wp2
  go_loop [5] (fun i => ∃ k : Nat, k ≤ n ∧ i = .int .i64 k ∧ Hid (∀ j (h : j < zs.length), j < k → zs[j] ≠ x)) (fun i => n - (intOf i).toNat)
  case atStart => exact ⟨0, Nat.zero_le _, rfl, Lib.hid fun j _ h => absurd h (by omega)⟩
  case round =>
    obtain ⟨k, hk, rfl, HA⟩ := hrel
    by_cases hlt : k < n
    · have hkl : k < zs.length := by have := HN.out; omega
      obtain ⟨ad, hA, hbl, hcell⟩ := ints_at hr hkl
      subst hA
      obtain ⟨z, hz⟩ : ∃ z, zs[k]'hkl = z := ⟨_, rfl⟩
      rw [hz] at hcell
      have HZ := Lib.hid hz; clear hz
      by_cases hzx : z = x
      · have HE : Hid (true = r) := Lib.hid (by rw [← HR.out, ← hzx, ← HZ.out]; exact (decide_eq_true (List.getElem_mem hkl)).symm)
        subst hzx
        go_wp2
        go_ret
        exact ⟨retb HE.out, rfl⟩
      · have HS : Hid (∀ j (h : j < zs.length), j < k + 1 → zs[j] ≠ x) := Lib.hid (by
          intro j h hj
          by_cases hjk : j < k
          · exact HA.out j h hjk
          · obtain rfl : j = k := by omega
            rw [HZ.out]; exact hzx)
        have q : (z == x) = false := by simpa using hzx
        clear hzx
        go_wp2
        go_round
        case rel => exact ⟨k + 1, by omega, by go_num, HS⟩
        case measure => simp [intOf]; omega
    · have HE : Hid (false = r) := Lib.hid (by
        rw [← HR.out]
        refine (decide_eq_false fun h => ?_).symm
        obtain ⟨j, hj, e⟩ := List.getElem_of_mem h
        exact HA.out j hj (by have := HN.out; omega) e)
      go_wp2
      go_ret
      exact ⟨retb HE.out, rfl⟩

theorem in_yesR (x a b : Int) (w : World) (h1 : a ≤ x) (h2 : x ≤ b) : Calls Try.prog 140 #[.int .i64 x, .int .i64 a, .int .i64 b] w fun e w' => e = .returned (.bool true) ∧ w = w' :=
  (in_yes x a b w h1 h2).mono fun _ _ ⟨h, k⟩ => ⟨h, k.symm⟩
theorem in_noR (x a b : Int) (w : World) (h : x < a ∨ b < x) : Calls Try.prog 140 #[.int .i64 x, .int .i64 a, .int .i64 b] w fun e w' => e = .returned (.bool false) ∧ w = w' :=
  (in_no x a b w h).mono fun _ _ ⟨h, k⟩ => ⟨h, k.symm⟩
theorem otherV_neg {ss : List ByteArray} {fs : List Q4} (hv : netP ss fs) {k : Nat} {q : Q4} (hk : k < fs.length) (hq : fs[k] = q) (x : Int) : (acrB q x = false → otherV q x = -1) ∧ (acrB q x = true → otherV q x = acrI q x ∧ 0 ≤ acrI q x) := by
  have hp := (hv.2.2.2 k hk hk).1
  rw [hq] at hp
  unfold fibP at hp
  constructor
  · intro h
    have := of_decide_eq_false h
    unfold otherV
    rw [if_neg (fun h => this (.inl h)), if_neg (fun h => this (.inr h))]
  · intro h
    have h1 := of_decide_eq_true h
    refine ⟨other_eq h1, ?_⟩
    unfold acrI
    split
    · omega
    · split <;> omega
theorem own_lt {w w' : World} {B B' E s n g c : Nat} {xs : List Value} (ho : w.ownsRow B E s (.slice (some ⟨g, 0, none⟩) n c) n xs) (h : Below B' w w') (hg : g < B') : w'.ownsRow B E s (.slice (some ⟨g, 0, none⟩) n c) n xs := by
  refine ⟨ho.1, ?_⟩
  rcases ho.2 with hn | ⟨g', cap', cur, e, hg', hh, rest⟩
  · exact .inl hn
  · have e' := e
    injection e with e1
    injection e1 with e1; injection e1 with e1
    subst e1
    exact .inr ⟨g, cap', cur, e', hg', (h.block g hg).trans hh, rest⟩
theorem own_last {w : World} {B : Option Addr} {b N cc k : Nat} {ns : List Int} (h : w.ownsRow b 3 1 (.slice B N cc) N (ns.reverse.map (Value.int .i64))) (hN : N = ns.length) (hk : N = k + 1) :
    ∃ g, B = some ⟨g, 0, none⟩ ∧ g < w.heap.size ∧ w.cell? ⟨g, k, none⟩ = some (.int .i64 (ns.headD 0)) := by
  cases ns with
  | nil => simp at hN; omega
  | cons a tl =>
    have hkt : tl.length = k := by rw [List.length_cons] at hN; omega
    rcases h.2 with ⟨e, e2⟩ | ⟨g, cap, cur, e, _, hh, _⟩
    · omega
    · injection e with e1
      subst e1
      refine ⟨g, rfl, (Array.getElem?_eq_some_iff.1 hh).1, ?_⟩
      rw [h.cellAt k (by omega), List.getElem?_map, List.reverse_cons, List.getElem?_append_right (by simp; omega)]
      simp [hkt]
def SWalkP (n1 : Nat) (fs : List Q4) (st : Int) (fl : List Int) (w : World) (e : Ending) (w' : World) : Prop :=
  Below w.heap.size w w' ∧ ∃ (A : Option Addr) (N c : Nat), (routeN n1 fs st fl = none ∧ e = .returned (.tuple #[.slice A N c, .bool false])) ∨
    ∃ vs, routeN n1 fs st fl = some vs ∧ e = .returned (.tuple #[.slice A N c, .bool true]) ∧ N = vs.length ∧ w'.ownsRow w.heap.size 3 1 (.slice A N c) N (vs.reverse.map (Value.int .i64))

set_option maxRecDepth 100000 in
set_option maxHeartbeats 8000000 in
theorem l4Walk_ {g1 g2 n1 n2 c1 c2 : Nat} {ss : List ByteArray} {fs : List Q4} {w : World} (h : NetAt g1 g2 n1 n2 c1 c2 ss fs w) (hv : netP ss fs) (st : Int)
    {A : Option Addr} {n c : Nat} {fl : List Int} (hn : fl.length = n) (hr : Rd w w.heap.size A (fl.map (Value.int .i64))) (hx : n ≤ 1048576) :
    Calls Try.prog 219 #[.agg #[.slice (some ⟨g1, 0, none⟩) n1 c1, .slice (some ⟨g2, 0, none⟩) n2 c2], .agg #[.int .i64 st, .slice A n c]] w (SWalkP n1 fs st fl w) := by
  have HV := Lib.hid hv; have HN := Lib.hid hn
  have HLN := Lib.hid h.ln2
  have hs1 := h.sm1
  have hs2 := h.sm2
  have HNT := Lib.hid h; have HR := Lib.hid hr
  obtain ⟨i0, hi, hz0_, hz1_, hz2_⟩ := info_parts Try.inf_int
  have HI := Lib.hid hi; have HZ0 := Lib.hid hz0_; have HZ1 := Lib.hid hz1_; have HZ2 := Lib.hid hz2_
  clear hv hn h hr hi hz0_ hz1_ hz2_
  go_enter Try.func219, Try.ntmps219
  go_wp2_with fail
  obtain ⟨W0, hW0⟩ : ∃ W0, ((w.alloc (Obj.cells #[.slice (some ⟨g1, 0, none⟩) n1 c1, .slice (some ⟨g2, 0, none⟩) n2 c2] 32)).alloc (Obj.cells #[.int .i64 st, .slice A n c] 45)).alloc (Obj.cells #[.int .i64 st] 3) = W0 := ⟨_, rfl⟩
  have hb0 : Below w.heap.size w W0 := by rw [← hW0]; exact (((Below.refl _ _).alloc (Nat.le_refl _) _).alloc (by simp) _).alloc (by simp; omega) _
  have hk0 : W0.cell? ⟨w.heap.size, 0, none⟩ = some (.slice (some ⟨g1, 0, none⟩) n1 c1) := by rw [← hW0]; simp [go_sem]
  have hk1 : W0.cell? ⟨w.heap.size, 1, none⟩ = some (.slice (some ⟨g2, 0, none⟩) n2 c2) := by rw [← hW0]; simp [go_sem]
  have hk2 : W0.cell? ⟨w.heap.size + 1, 0, none⟩ = some (.int .i64 st) := by rw [← hW0]; simp [go_sem]
  have hk3 : W0.cell? ⟨w.heap.size + 1, 1, none⟩ = some (.slice A n c) := by rw [← hW0]; simp [go_sem]
  have hz0 : w.heap.size + 2 < W0.heap.size := by rw [← hW0]; simp
  have hown0 : W0.ownsRow (w.heap.size + 2) 3 1 (.slice (some ⟨w.heap.size + 2, 0, none⟩) 1 1) 1 [.int .i64 st] := by
    rw [← hW0]
    have := World.ownsRow_lit (base := w.heap.size + 2) (e := 3) (size := 1) ((w.alloc (Obj.cells #[.slice (some ⟨g1, 0, none⟩) n1 c1, .slice (some ⟨g2, 0, none⟩) n2 c2] 32)).alloc (Obj.cells #[.int .i64 st, .slice A n c] 45)) #[.int .i64 st] 1 (by simp) (by unfold maxLen; omega) rfl
    simpa using this
  have HO0 := Lib.hid hown0; have HB0 := Lib.hid hb0
  rw [hW0]
  clear hW0 hown0 hb0
  by_cases hst : 0 ≤ st ∧ st ≤ (n1 : Int) - 1
  case neg =>
    have HE : Hid (routeN n1 fs st fl = none) := Lib.hid (by unfold routeN; rw [if_neg (fun h => hst (by have := h.1; omega))])
    refine (in_noR st 0 ((n1 : Int) - 1) _ (by omega)).mono ?_
    rintro e w' ⟨rfl, rfl⟩
    clear hst
    go_wp2
    go_ret2
    exact ⟨HB0.out, _, _, _, .inl ⟨HE.out, rfl⟩⟩
  case pos =>
  refine (in_yesR st 0 ((n1 : Int) - 1) _ hst.1 hst.2).mono ?_
  rintro e w' ⟨rfl, rfl⟩
  have HST := Lib.hid hst
  clear hst
  by_cases hne : n = 0
  · have HE : Hid (routeN n1 fs st fl = none) := Lib.hid (by
      unfold routeN; rw [if_neg (fun h => h.2 (List.eq_nil_of_length_eq_zero (by have := HN.out; omega)))])
    subst hne
    go_wp2
    go_ret2
    exact ⟨HB0.out, _, _, _, .inl ⟨HE.out, rfl⟩⟩
  have HE : Hid (routeN n1 fs st fl = walkR fs fl [st]) := Lib.hid (by
    unfold routeN; rw [if_pos ⟨⟨HST.out.1, by have := HST.out.2; omega⟩, fun h => hne (by have := HN.out; rw [h] at this; exact this.symm)⟩])
  have q1 : ((n : Int) == 0) = false := by simpa using hne
  have q2 : decide ((n : Int) = 0) = false := decide_eq_false (by omega)
  have hnpos : 0 < n := by omega
  clear hne
  have HK0 := Lib.hid hk0; have HK1 := Lib.hid hk1; have HK3 := Lib.hid hk3; have HZB := Lib.hid hz0
  go_wp2
  clear hk0 hk1 hk2 hk3 hz0 q1 q2
  go_loopw [6, 7] (fun v i wr => ∃ (k : Nat) (ns : List Int) (B : Option Addr) (N cc : Nat), k ≤ n ∧ i = .int .i64 k ∧ v = .slice B N cc ∧ Hid (walkR fs fl [st] = walkR fs (fl.drop k) ns ∧ N = ns.length) ∧ N = k + 1
      ∧ Hid (wr.ownsRow (w.heap.size + 2) 3 1 (.slice B N cc) N (ns.reverse.map (Value.int .i64))) ∧ Below (w.heap.size + 2) W0 wr) (fun _ i _ => n - (intOf i).toNat)
  case atStart => exact ⟨0, [st], _, 1, _, Nat.zero_le _, rfl, rfl, Lib.hid ⟨by rw [List.drop_zero], rfl⟩, rfl, HO0, Below.refl _ _⟩
  case round =>
    obtain ⟨k, ns, B, N, cc, hk, rfl, rfl, HW, hNk, HOW, hb⟩ := hrel
    have HBW := Lib.hid (HB0.out.trans (hb.mono (by omega)))
    have hk0 := (hb.cell (p := ⟨w.heap.size, 0, none⟩) (by show w.heap.size < _; omega)).trans HK0.out
    have hk1 := (hb.cell (p := ⟨w.heap.size, 1, none⟩) (by show w.heap.size < _; omega)).trans HK1.out
    have hk3 := (hb.cell (p := ⟨w.heap.size + 1, 1, none⟩) (by show w.heap.size + 1 < _; omega)).trans HK3.out
    have hzw : w.heap.size + 2 < wr.heap.size := Nat.lt_of_lt_of_le HZB.out hb.size
    have hNb : N ≤ 1048577 := by omega
    have HNK := Lib.hid hNk
    have hNk1 : k + 1 ≤ N := by omega
    have hNk2 : N ≤ k + 1 := by omega
    clear hNk
    by_cases hlt : k < n
    case neg =>
      have hkn : k = n := by omega
      have HF : Hid (routeN n1 fs st fl = some ns) := Lib.hid (by rw [HE.out, HW.out.1, List.drop_of_length_le (by have := HN.out; omega)]; rfl)
      clear hkn
      go_wp2
      go_ret2
      exact ⟨HBW.out, B, N, cc, .inr ⟨ns, HF.out, rfl, HW.out.2, own_base HOW.out (by omega)⟩⟩
    case pos =>
    have hkl : k < fl.length := by have := HN.out; omega
    obtain ⟨ad, hA, hbl, hcell⟩ := ints_at HR.out hkl
    subst hA
    rw [← HBW.out.cell (by rw [addBlock]; exact hbl)] at hcell
    obtain ⟨x, hx⟩ : ∃ x, fl[k]'hkl = x := ⟨_, rfl⟩
    rw [hx] at hcell
    have HD : Hid (walkR fs fl [st] = walkR fs (x :: fl.drop (k + 1)) ns) := Lib.hid (by rw [HW.out.1, drop_at fl k hkl, hx])
    have e1 : IntKind.i64.wrap ((n2 : Int) - 1) = (n2 : Int) - 1 := IntWalk.i64_in _ (by omega)
    have HX := Lib.hid hx
    clear hx
    by_cases hin : 0 ≤ x ∧ x ≤ (n2 : Int) - 1
    case neg =>
      have HF : Hid (routeN n1 fs st fl = none) := Lib.hid (by
        rw [HE.out, HD.out]
        refine walkR_none ?_
        unfold stepO
        rw [if_neg (fun h => hin (by have h1 := h.1; have := HLN.out; omega))])
      have CI := Lib.hid (fun W => in_no x 0 ((n2 : Int) - 1) W (by omega))
      clear hin
      go_wp2
      go_quiet ((go_at_call 140; exact Calls.quiet_of_same (CI.out _)))
      clear e1
      go_wp2
      go_ret2
      exact ⟨drewN_below HBW.out _, _, _, _, .inl ⟨HF.out, rfl⟩⟩
    case pos =>
    have CI := Lib.hid (fun W => in_yes x 0 ((n2 : Int) - 1) W hin.1 hin.2)
    obtain ⟨m, rfl⟩ : ∃ m : Nat, x = m := ⟨x.toNat, by omega⟩
    have hmn : m < n2 := by omega
    have hml : m < fs.length := by have := HLN.out; omega
    obtain ⟨q, hq⟩ : ∃ q, fs[m]'hml = q := ⟨_, rfl⟩
    have HQ : Hid (fibI fs (m : Int) = q) := Lib.hid (by
      unfold fibI
      rw [List.getD_eq_getElem?_getD, show ((m : Int)).toNat = m by omega, List.getElem?_eq_getElem hml, hq]; rfl)
    have HQ2 := Lib.hid hq
    clear hin
    go_wp2
    go_quiet ((go_at_call 140; exact Calls.quiet_of_same (CI.out _)))
    generalize hwd : wr.drewN _ = wd
    have HBD : Hid (Below wr.heap.size wr wd) := Lib.hid (by rw [← hwd]; exact drewN_below (Below.refl _ _) _)
    clear hwd e1 hk0 hk1 hk3 hcell
    go_wp2
    obtain ⟨gB, hB, hgB, hlast⟩ := own_last HOW.out HW.out.2 HNK.out
    subst hB
    obtain ⟨nd, hnd⟩ : ∃ nd, ns.headD 0 = nd := ⟨_, rfl⟩
    rw [hnd] at hlast
    have HND := Lib.hid hnd
    have e2 : IntKind.i64.wrap ((N : Int) - 1) = (k : Int) := by rw [IntWalk.i64_in _ (by omega)]; omega
    have hkN : (k : Int) < (N : Int) := by omega
    have HBW2 := Lib.hid (HBW.out.trans (HBD.out.mono HBW.out.size))
    obtain ⟨T, f, x0, hx0, hT, HST⟩ := above wd
    haveI : Nonempty T := ⟨x0⟩
    have HTW : Hid (∀ x, Below wr.heap.size wr (f x)) := Lib.hid fun x => HBD.out.trans ((hT x).mono HBD.out.size)
    have HTT : Hid (∀ x, Below w.heap.size w (f x)) := Lib.hid fun x => HBW2.out.trans ((hT x).mono HBW2.out.size)
    have HTB : Hid (∀ x, Below (w.heap.size + 2) W0 (f x)) := Lib.hid fun x => hb.trans ((HTW.out x).mono (by omega))
    have s0 : ∀ x, (f x).cell? ⟨w.heap.size, 0, none⟩ = some (.slice (some ⟨g1, 0, none⟩) n1 c1) := fun x => ((HTB.out x).cell (p := ⟨w.heap.size, 0, none⟩) (by show w.heap.size < _; omega)).trans HK0.out
    have s1 : ∀ x, (f x).cell? ⟨w.heap.size, 1, none⟩ = some (.slice (some ⟨g2, 0, none⟩) n2 c2) := fun x => ((HTB.out x).cell (p := ⟨w.heap.size, 1, none⟩) (by show w.heap.size < _; omega)).trans HK1.out
    have s3 : ∀ x, (f x).cell? ⟨w.heap.size + 1, 1, none⟩ = some (.slice (some ad) n c) := fun x => ((HTB.out x).cell (p := ⟨w.heap.size + 1, 1, none⟩) (by show w.heap.size + 1 < _; omega)).trans HK3.out
    have s4 : ∀ x, (f x).cell? (ad.add k) = some (.int .i64 (m : Int)) := fun x => by
      obtain ⟨ad', hA', hbl', hcell'⟩ := ints_at HR.out hkl
      injection hA' with hA'
      subst hA'
      rw [(HTT.out x).cell (p := ad.add k) (by rw [addBlock]; exact hbl'), hcell', HX.out]
    have s5 : ∀ x, (f x).cell? ⟨gB, k, none⟩ = some (.int .i64 nd) := fun x => ((HTW.out x).cell (p := ⟨gB, k, none⟩) hgB).trans hlast
    have CO : Hid (∀ x, Calls Try.prog 222 #[.agg #[.slice (some ⟨g1, 0, none⟩) n1 c1, .slice (some ⟨g2, 0, none⟩) n2 c2], .int .i64 (m : Int), .int .i64 nd] (f x) fun e w' => e = .returned (.int .i64 (otherV q nd)) ∧ Below (f x).heap.size (f x) w') := Lib.hid fun x => l2Other_ (HNT.out.moved (HTT.out x)) m hmn q (fun _ => HQ2.out) nd
    obtain ⟨ov, hov⟩ : ∃ ov, otherV q nd = ov := ⟨_, rfl⟩
    rw [hov] at CO
    have HOV := Lib.hid hov
    have HXX := Lib.hid hx0
    clear hT hx0 hlast hnd hov hq
    refine wp_region_class f (by kernel_rfl) (by kernel_rfl) x0 HXX.out ?_
    repeat (go_big_quiet_step ((go_at_call 222; exact Calls.inClass HST (CO.out _))))
    refine wpQuiet_nil ?_
    rintro _ ⟨x, rfl⟩
    have HB2 := Lib.hid (HTW.out x)
    have HBT := Lib.hid (HTB.out x)
    have HBTT := Lib.hid (HTT.out x)
    clear s0 s1 s3 s4 s5 e2
    generalize f x = w2 at HB2 HBT HBTT ⊢
    have HO2 := Lib.hid (own_lt HOW.out HB2.out hgB)
    clear HST HTW HTT HTB CO CI HXX
    cases hac : acrB q nd
    case false =>
      have hov := (otherV_neg HV.out hml HQ2.out nd).1 hac
      rw [HOV.out] at hov
      have HF : Hid (routeN n1 fs st fl = none) := Lib.hid (by
        rw [HE.out, HD.out]
        refine walkR_none ?_
        unfold stepO
        rw [HND.out, HQ.out, if_neg (fun h => by have := h.2.1; rw [hac] at this; exact absurd this (by decide))])
      subst hov
      go_wp2
      go_ret2
      exact ⟨HBTT.out, _, _, _, .inl ⟨HF.out, rfl⟩⟩
    case true =>
    obtain ⟨hov, hov0⟩ := (otherV_neg HV.out hml HQ2.out nd).2 hac
    rw [HOV.out] at hov
    rw [← hov] at hov0
    have CH := Lib.hid (has_ (some ⟨gB, 0, none⟩) N cc ns.reverse ov w2 (by rw [List.length_reverse]; exact HW.out.2.symm) (Rd.ofOwn HO2.out) (by omega))
    have hmem : decide (ov ∈ ns.reverse) = decide (ov ∈ ns) := by simp
    rw [hmem] at CH
    have HOVA := Lib.hid hov
    clear hmem hov
    cases hin2 : decide (ov ∈ ns)
    case true =>
      have HF : Hid (routeN n1 fs st fl = none) := Lib.hid (by
        rw [HE.out, HD.out]
        refine walkR_none ?_
        unfold stepO
        rw [HND.out, HQ.out, if_neg (fun h => by have := h.2.2; rw [← HOVA.out] at this; exact this (of_decide_eq_true hin2))])
      rw [hin2] at CH
      clear hin2 hac
      go_wp2_with fail
      refine CH.out.mono ?_
      rintro e w' ⟨rfl, rfl⟩
      go_wp2
      go_ret2
      exact ⟨HBTT.out, _, _, _, .inl ⟨HF.out, rfl⟩⟩
    case false =>
    have HF : Hid (walkR fs fl [st] = walkR fs (fl.drop (k + 1)) (ov :: ns)) := Lib.hid (by
      rw [HD.out]
      refine walkR_some ?_
      unfold stepO
      rw [HND.out, HQ.out, if_pos ⟨⟨by omega, by have := HLN.out; omega⟩, hac, by rw [← HOVA.out]; exact of_decide_eq_false hin2⟩, HOVA.out])
    rw [hin2] at CH
    clear hin2 hac
    have hown := HO2.out
    have hsz2 : w.heap.size + 2 < w2.heap.size := Nat.lt_of_lt_of_le HZB.out HBT.out.size
    go_wp2_with fail
    refine CH.out.mono ?_
    rintro e w' ⟨rfl, rfl⟩
    go_wp2_with (at_builtin; refine wpList_append_own _ rfl _ _ 39 rfl (w.heap.size + 2) 3 i0 (.int .i64 0) 1 8 Try.underlying39 HI.out HZ0.out HZ1.out HZ2.out rfl (by decide) _ N _ rfl (hown.alloc _) ⟨w2.heap.size, 0, none⟩ 1 1 [.int .i64 ov] rfl rfl (new_one _ _ _) (new_int _) (by unfold maxLen; omega) (by omega) (by simp; omega) ?_)
    intro v1 w3 hown1 hgrow1 _
    have hB3 : Below (w.heap.size + 2) W0 w3 := (HBT.out.alloc (Nat.le_of_lt hsz2) _).grown hgrow1 (by simp; omega) (fun g hg => (hown.lt g hg).1)
    obtain ⟨N1, hN1⟩ : ∃ N1, N + 1 = N1 := ⟨_, rfl⟩
    rw [hN1] at hown1
    obtain ⟨A1, cc1, rfl⟩ := formOf hown1
    have HOW1 : Hid (w3.ownsRow (w.heap.size + 2) 3 1 (.slice A1 N1 cc1) N1 ((ov :: ns).reverse.map (Value.int .i64))) := Lib.hid (by simpa using hown1)
    have HNX1 : Hid (walkR fs fl [st] = walkR fs (fl.drop (k + 1)) (ov :: ns) ∧ N1 = (ov :: ns).length) := Lib.hid ⟨HF.out, by rw [List.length_cons, ← HW.out.2, ← hN1]⟩
    have HN2 : Hid (N1 = k + 1 + 1) := Lib.hid (by rw [← hN1, HNK.out])
    have HB3 := Lib.hid hB3
    clear hown1 hgrow1 hown hB3 hN1
    go_wp2
    go_roundw
    case rel => exact ⟨k + 1, ov :: ns, A1, N1, cc1, by omega, by go_num, rfl, HNX1, HN2.out, HOW1, HB3.out⟩
    case measure => simp [intOf]; omega

noncomputable def routeB (ss : List ByteArray) (fs : List Q4) (st : Int) (fl : List Int) : Bool := pb (netP ss fs) && (routeN ss.length fs st fl).isSome
set_option maxRecDepth 100000 in
set_option maxHeartbeats 4000000 in
theorem l4Good_ {g1 g2 n1 n2 c1 c2 : Nat} {ss : List ByteArray} {fs : List Q4} {w : World} (h : NetAt g1 g2 n1 n2 c1 c2 ss fs w) (st : Int)
    {A : Option Addr} {n c : Nat} {fl : List Int} (hn : fl.length = n) (hr : Rd w w.heap.size A (fl.map (Value.int .i64))) (hx : n ≤ 1048576) :
    Calls Try.prog 127 #[.agg #[.slice (some ⟨g1, 0, none⟩) n1 c1, .slice (some ⟨g2, 0, none⟩) n2 c2], .agg #[.int .i64 st, .slice A n c]] w (RetP (.bool (routeB ss fs st fl)) w) := by
  have HN := Lib.hid hn; have HNT := Lib.hid h; have HR := Lib.hid hr
  have HL1 := Lib.hid h.ln1
  clear hn h hr
  obtain ⟨r, hrr⟩ : ∃ r, routeB ss fs st fl = r := ⟨_, rfl⟩
  rw [hrr]
  have HRR := Lib.hid hrr
  clear hrr
  go_enter Try.func127, Try.ntmps127
  go_wp2_with fail
  obtain ⟨W0, hW0⟩ : ∃ W0, (w.alloc (Obj.cells #[.slice (some ⟨g1, 0, none⟩) n1 c1, .slice (some ⟨g2, 0, none⟩) n2 c2] 32)).alloc (Obj.cells #[.int .i64 st, .slice A n c] 45) = W0 := ⟨_, rfl⟩
  have hb0 : Below w.heap.size w W0 := by rw [← hW0]; exact ((Below.refl _ _).alloc (Nat.le_refl _) _).alloc (by simp) _
  have hk0 : W0.cell? ⟨w.heap.size, 0, none⟩ = some (.slice (some ⟨g1, 0, none⟩) n1 c1) := by rw [← hW0]; simp [go_sem]
  have hk1 : W0.cell? ⟨w.heap.size, 1, none⟩ = some (.slice (some ⟨g2, 0, none⟩) n2 c2) := by rw [← hW0]; simp [go_sem]
  have hk2 : W0.cell? ⟨w.heap.size + 1, 0, none⟩ = some (.int .i64 st) := by rw [← hW0]; simp [go_sem]
  have hk3 : W0.cell? ⟨w.heap.size + 1, 1, none⟩ = some (.slice A n c) := by rw [← hW0]; simp [go_sem]
  have hz0 : w.heap.size + 1 < W0.heap.size := by rw [← hW0]; simp
  have HB0 := Lib.hid hb0
  rw [hW0]
  clear hW0 hb0
  refine (specNet_ (HNT.out.moved HB0.out)).mono ?_
  rintro e w1 ⟨rfl, hb1⟩
  have HB1 := Lib.hid (HB0.out.trans (hb1.mono HB0.out.size))
  have l0 := (hb1.cell (p := ⟨w.heap.size, 0, none⟩) (by show w.heap.size < _; omega)).trans hk0
  have l1 := (hb1.cell (p := ⟨w.heap.size, 1, none⟩) (by show w.heap.size < _; omega)).trans hk1
  have l2 := (hb1.cell (p := ⟨w.heap.size + 1, 0, none⟩) hz0).trans hk2
  have l3 := (hb1.cell (p := ⟨w.heap.size + 1, 1, none⟩) hz0).trans hk3
  clear hb1 hk0 hk1 hk2 hk3 hz0
  by_cases hv : netP ss fs
  case neg =>
    have HE : Hid (false = r) := Lib.hid (by rw [← HRR.out]; unfold routeB; rw [pb_false hv]; rfl)
    rw [pb_false hv]
    clear hv
    go_wp2
    go_ret
    exact ⟨retb HE.out, HB1.out⟩
  case pos =>
  have CW := Lib.hid (l4Walk_ (c := c) (HNT.out.moved HB1.out) hv st HN.out (HR.out.moved HB1.out) hx)
  have HPV := Lib.hid (pb_true hv)
  rw [HPV.out]
  clear hv
  go_wp2_with fail
  refine CW.out.mono ?_
  rintro e w2 ⟨hb2, B, N, cc, h2⟩
  have HB2 := Lib.hid (HB1.out.trans (hb2.mono HB1.out.size))
  clear hb2
  rcases h2 with ⟨hs, rfl⟩ | ⟨vs, hs, rfl, _⟩
  · have HE : Hid (false = r) := Lib.hid (by rw [← HRR.out]; unfold routeB; rw [HPV.out, HL1.out, hs]; rfl)
    clear hs
    go_wp2
    go_ret
    exact ⟨retb HE.out, HB2.out⟩
  · have HE : Hid (true = r) := Lib.hid (by rw [← HRR.out]; unfold routeB; rw [HPV.out, HL1.out, hs]; rfl)
    clear hs
    go_wp2
    go_ret
    exact ⟨retb HE.out, HB2.out⟩
end Go.Proofs.Ytcbjdfgmkiodkaa
