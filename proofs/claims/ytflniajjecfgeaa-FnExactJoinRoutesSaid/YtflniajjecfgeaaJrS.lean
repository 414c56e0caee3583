/- Two routes joined: contract of the specification. No condition but those typed. -/
import Derived.Test.YtflniajjecfgeaaJrI
import Derived.Test.YtflniajjecfgeaaWk10
import Derived.Test.YtflniajjecfgeaaOwn
import Derived.Test.YtflniajjecfgeaaFfO
import Derived.Test.YtflniajjecfgeaaGA
import Derived.Deep.RegionLaw
namespace Go.Proofs.Ytflniajjecfgeaa
open Go.ChangeShapes Go.WideShapes Go.ChangeAt Go.RowKit
def JrRel (W0 : World) (sa : Int) (zs : List Int) (N : Nat) (s8 : Value) (wx : World) : Prop :=
  ∃ (A4 : Option Addr) (c4 bx : Nat), s8 = .pointer (some ⟨bx, 0, none⟩) ∧ Hid (wx.ownsRow W0.heap.size 3 1 (.slice A4 N c4) N (zs.map (Value.int .i64))) ∧ Hid (wx.ownsRow W0.heap.size 31 2 (.slice (some ⟨bx, 0, none⟩) 1 1) 1 [.int .i64 sa, .slice A4 N c4]) ∧ Below W0.heap.size W0 wx
theorem jr_fin {W0 X : World} {sa : Int} {zs : List Int} {N c4 b : Nat} {A4 : Option Addr} (hB : X.ownsRow W0.heap.size 31 2 (.slice (some ⟨b, 0, none⟩) 1 1) 1 [.int .i64 0, .slice none 0 0]) (h1 : X.ownsRow W0.heap.size 3 1 (.slice A4 N c4) N (zs.map (Value.int .i64))) (hb : Below W0.heap.size W0 X) :
    JrRel W0 sa zs N (.pointer (some ⟨b, 0, none⟩)) ((X.setCell ⟨b, 0, none⟩ (.int .i64 sa)).setCell ⟨b, 1, none⟩ (.slice A4 N c4)) := by
  have hoff : Off (fun g => g = b) X ((X.setCell ⟨b, 0, none⟩ (.int .i64 sa)).setCell ⟨b, 1, none⟩ (.slice A4 N c4)) := (off1 _).trans (off1 _)
  have hge := (hB.lt b rfl).1
  refine ⟨A4, c4, b, rfl, Lib.hid (own_offV h1 hoff (fun g hg e => by subst e; exact own_type_apart h1 hB (by decide) _ hg rfl)), Lib.hid ?_, ?_⟩
  · have h9 := ((hB.stored 0 (.int .i64 sa)).1.stored 1 (.slice A4 N c4)).1
    simpa using h9
  · exact (hb.setCell (p := ⟨b, 0, none⟩) hge _).setCell (p := ⟨b, 1, none⟩) hge _
theorem jr_fin2 {W0 X : World} {sa : Int} {zs : List Int} {N c4 : Nat} {A4 : Option Addr} (h1 : X.ownsRow W0.heap.size 3 1 (.slice A4 N c4) N (zs.map (Value.int .i64))) (hb : Below W0.heap.size W0 X) :
    JrRel W0 sa zs N (.pointer (some ⟨X.heap.size, 0, none⟩)) (X.alloc (Obj.cells #[.int .i64 sa, .slice A4 N c4] 31)) :=
  ⟨A4, c4, _, rfl, Lib.hid (h1.alloc _), Lib.hid (one_rowR X _ _ rfl rfl hb.size), hb.alloc hb.size _⟩
set_option maxRecDepth 100000 in
set_option maxHeartbeats 2000000 in
theorem specJR {g1 g2 n1 n2 c1 c2 : Nat} {ss : List ByteArray} {fs : List Q4} {w : World} (h : NetAt g1 g2 n1 n2 c1 c2 ss fs w) (sa : Int) {A : Option Addr} {n c : Nat} {xs : List Int} (hn : xs.length = n) (hr : Rd w w.heap.size A (xs.map (Value.int .i64))) (hx : n ≤ 1048576) (sb : Int) {A2 : Option Addr} {m c3 : Nat} {ys : List Int} (hm : ys.length = m) (hr2 : Rd w w.heap.size A2 (ys.map (Value.int .i64))) (hx2 : m ≤ 1048576) :
    Calls Try.prog 16 #[.agg #[.slice (some ⟨g1, 0, none⟩) n1 c1, .slice (some ⟨g2, 0, none⟩) n2 c2], .agg #[.int .i64 sa, .slice A n c], .agg #[.int .i64 sb, .slice A2 m c3]] w (RtP (jrS ss fs sa xs sb ys) (jrL ss fs sa xs sb ys) (pb (jrP ss fs sa xs sb ys)) w) := by
  obtain ⟨S, hS⟩ : ∃ r, jrS ss fs sa xs sb ys = r := ⟨_, rfl⟩
  obtain ⟨L, hL⟩ : ∃ r, jrL ss fs sa xs sb ys = r := ⟨_, rfl⟩
  obtain ⟨b0, hb0_⟩ : ∃ r, pb (jrP ss fs sa xs sb ys) = r := ⟨_, rfl⟩
  have HNO : Hid (¬ jrP ss fs sa xs sb ys → S = 0 ∧ L = [] ∧ b0 = false) := Lib.hid (fun e => by rw [← hS, ← hL, ← hb0_]; exact jr_no e)
  have HYES : Hid (jrP ss fs sa xs sb ys → S = sa ∧ L = xs ++ ys ∧ b0 = true) := Lib.hid (fun e => by rw [← hS, ← hL, ← hb0_]; exact jr_yes e)
  rw [hS, hL, hb0_]
  clear hS hL hb0_
  have HL1 := Lib.hid h.ln1
  go_enter Try.func16, Try.ntmps16
  go_wp2_with fail
  obtain ⟨W0, hW0⟩ : ∃ W0, (((w.alloc (Obj.cells #[.slice (some ⟨g1, 0, none⟩) n1 c1, .slice (some ⟨g2, 0, none⟩) n2 c2] 36)).alloc (Obj.cells #[.int .i64 sa, .slice A n c] 31)).alloc (Obj.cells #[.int .i64 sb, .slice A2 m c3] 31)).alloc (Obj.cells #[.int .i64 0, .slice none 0 0] 31) = W0 := ⟨_, rfl⟩
  have hb0 : Below w.heap.size w W0 := by rw [← hW0]; exact ((((Below.refl _ _).alloc (Nat.le_refl _) _).alloc (by simp) _).alloc (by simp; omega) _).alloc (by simp; omega) _
  have k0 : W0.cell? ⟨w.heap.size, 0, none⟩ = some (.slice (some ⟨g1, 0, none⟩) n1 c1) := by rw [← hW0]; simp [go_sem]
  have k1 : W0.cell? ⟨w.heap.size, 1, none⟩ = some (.slice (some ⟨g2, 0, none⟩) n2 c2) := by rw [← hW0]; simp [go_sem]
  have k2 : W0.cell? ⟨w.heap.size + 1, 0, none⟩ = some (.int .i64 sa) := by rw [← hW0]; simp [go_sem]
  have k3 : W0.cell? ⟨w.heap.size + 1, 1, none⟩ = some (.slice A n c) := by rw [← hW0]; simp [go_sem]
  have k4 : W0.cell? ⟨w.heap.size + 1 + 1, 0, none⟩ = some (.int .i64 sb) := by rw [← hW0]; simp [go_sem]
  have k5 : W0.cell? ⟨w.heap.size + 1 + 1, 1, none⟩ = some (.slice A2 m c3) := by rw [← hW0]; simp [go_sem]
  have hsz : W0.heap.size = w.heap.size + 1 + 1 + 1 + 1 := by rw [← hW0]; simp
  have hor : W0.ownsRow w.heap.size 31 2 (.slice (some ⟨w.heap.size + 1 + 1 + 1, 0, none⟩) 1 1) 1 [.int .i64 0, .slice none 0 0] := by
    rw [← hW0]
    have := one_rowR (((w.alloc (Obj.cells #[.slice (some ⟨g1, 0, none⟩) n1 c1, .slice (some ⟨g2, 0, none⟩) n2 c2] 36)).alloc (Obj.cells #[.int .i64 sa, .slice A n c] 31)).alloc (Obj.cells #[.int .i64 sb, .slice A2 m c3] 31)) (.int .i64 0) (.slice none 0 0) rfl rfl (base := w.heap.size) (by simp; omega)
    simpa using this
  have HK : Hid (∀ u, Below W0.heap.size W0 u → u.cell? ⟨w.heap.size, 0, none⟩ = some (.slice (some ⟨g1, 0, none⟩) n1 c1) ∧ u.cell? ⟨w.heap.size, 1, none⟩ = some (.slice (some ⟨g2, 0, none⟩) n2 c2) ∧ u.cell? ⟨w.heap.size + 1, 0, none⟩ = some (.int .i64 sa) ∧ u.cell? ⟨w.heap.size + 1, 1, none⟩ = some (.slice A n c) ∧ u.cell? ⟨w.heap.size + 1 + 1, 0, none⟩ = some (.int .i64 sb) ∧ u.cell? ⟨w.heap.size + 1 + 1, 1, none⟩ = some (.slice A2 m c3) ∧ w.heap.size + 1 + 1 + 1 < u.heap.size) := Lib.hid fun u hu => ⟨(hu.cell (p := ⟨w.heap.size, 0, none⟩) (by show w.heap.size < _; omega)).trans k0, (hu.cell (p := ⟨w.heap.size, 1, none⟩) (by show w.heap.size < _; omega)).trans k1, (hu.cell (p := ⟨w.heap.size + 1, 0, none⟩) (by show w.heap.size + 1 < _; omega)).trans k2, (hu.cell (p := ⟨w.heap.size + 1, 1, none⟩) (by show w.heap.size + 1 < _; omega)).trans k3, (hu.cell (p := ⟨w.heap.size + 1 + 1, 0, none⟩) (by show w.heap.size + 1 + 1 < _; omega)).trans k4, (hu.cell (p := ⟨w.heap.size + 1 + 1, 1, none⟩) (by show w.heap.size + 1 + 1 < _; omega)).trans k5, by have := hu.size; omega⟩
  have HSR : Hid (∀ u, Below W0.heap.size W0 u → u.cell? ⟨w.heap.size + 1 + 1 + 1, 0, none⟩ = some (.int .i64 0) ∧ u.cell? ⟨w.heap.size + 1 + 1 + 1, 1, none⟩ = some (.slice none 0 0) ∧ u.frozen? ⟨w.heap.size + 1 + 1 + 1, 0, none⟩ = false ∧ u.frozen? ⟨w.heap.size + 1 + 1 + 1, 1, none⟩ = false ∧ w.heap.size + 1 + 1 + 1 < u.heap.size) := Lib.hid fun u hu => rx_facts (ownB hor hu)
  have HNT := Lib.hid (h.moved hb0); have HN := Lib.hid hn; have HM := Lib.hid hm; have HR := Lib.hid (hr.moved hb0); have HR2 := Lib.hid (hr2.moved hb0)
  have HB0 := Lib.hid hb0; have HSZ := Lib.hid hsz
  rw [hW0]
  clear h hn hr hm hr2 hb0 hW0 hsz k0 k1 k2 k3 k4 k5 hor
  obtain ⟨T, f, x0, hx0, hTT, HST⟩ := above W0
  haveI : Nonempty T := ⟨x0⟩
  have HXX := Lib.hid hx0; have HTT : Hid (∀ x, Below W0.heap.size W0 (f x)) := Lib.hid hTT
  have m0 := fun x => (HK.out _ (hTT x)).1
  have m1 := fun x => (HK.out _ (hTT x)).2.1
  have m2 := fun x => (HK.out _ (hTT x)).2.2.1
  have m3 := fun x => (HK.out _ (hTT x)).2.2.2.1
  have m4 := fun x => (HK.out _ (hTT x)).2.2.2.2.1
  have m5 := fun x => (HK.out _ (hTT x)).2.2.2.2.2.1
  have m6 : ∀ x, w.heap.size < (f x).heap.size := fun x => by have := (HK.out _ (hTT x)).2.2.2.2.2.2; omega
  have m7 : ∀ x, w.heap.size + 1 < (f x).heap.size := fun x => by have := (HK.out _ (hTT x)).2.2.2.2.2.2; omega
  have m8 : ∀ x, w.heap.size + 1 + 1 < (f x).heap.size := fun x => by have := (HK.out _ (hTT x)).2.2.2.2.2.2; omega
  have CGA : Hid (∀ x, Calls Try.prog 76 #[.agg #[.slice (some ⟨g1, 0, none⟩) n1 c1, .slice (some ⟨g2, 0, none⟩) n2 c2], .agg #[.int .i64 sa, .slice A n c]] (f x) (RetP (.bool (routeB ss fs sa xs)) (f x))) := Lib.hid fun x => l4Good_ (c := c) (HNT.out.moved (hTT x)) sa HN.out (HR.out.moved (hTT x)) hx
  have CGB : Hid (∀ x, Calls Try.prog 76 #[.agg #[.slice (some ⟨g1, 0, none⟩) n1 c1, .slice (some ⟨g2, 0, none⟩) n2 c2], .agg #[.int .i64 sb, .slice A2 m c3]] (f x) (RetP (.bool (routeB ss fs sb ys)) (f x))) := Lib.hid fun x => l4Good_ (c := c3) (HNT.out.moved (hTT x)) sb HM.out (HR2.out.moved (hTT x)) hx2
  clear hx0 hTT
  have hw2 : w.heap.size + 1 + 1 < W0.heap.size := by have := HSZ.out; omega
  obtain ⟨ba, hba⟩ : ∃ b, routeB ss fs sa xs = b := ⟨_, rfl⟩
  rw [hba] at CGA
  have HRA := Lib.hid hba
  clear hba
  cases ba
  case false =>
    obtain ⟨rfl, rfl, rfl⟩ := HNO.out (fun e => by have h9 := e.1; unfold crB at h9; rw [HRA.out] at h9; cases h9)
    refine wp_region_class f (by kernel_rfl) (by kernel_rfl) x0 HXX.out ?_
    repeat (go_big_quiet_step (first | (go_at_call 76; exact Calls.inClass HST (CGA.out _))))
    refine wpQuiet_nil ?_
    rintro _ ⟨x, rfl⟩
    have HBX := Lib.hid (HTT.out x)
    clear m0 m1 m2 m3 m4 m5 m6 m7 m8
    generalize f x = wq at HBX ⊢
    obtain ⟨s0, s1, s2, s3, s4⟩ := HSR.out wq HBX.out
    have HB01 := Lib.hid (HB0.out.trans (HBX.out.mono HB0.out.size))
    go_wp2_with fail
    exact bodyPost_ret (v := .tuple #[.agg #[.int .i64 0, .slice none 0 0], .bool false]) (by simp [results, Try.results16, go_sem, s0, s1, s4]) rfl (RtP_no (by omega) HB01.out)
  case true =>
  obtain ⟨bb, hbb⟩ : ∃ b, routeB ss fs sb ys = b := ⟨_, rfl⟩
  rw [hbb] at CGB
  have HRB := Lib.hid hbb
  clear hbb
  cases bb
  case false =>
    obtain ⟨rfl, rfl, rfl⟩ := HNO.out (fun e => by have h9 := e.1; unfold crB at h9; rw [HRB.out, Bool.and_false] at h9; cases h9)
    refine wp_region_class f (by kernel_rfl) (by kernel_rfl) x0 HXX.out ?_
    repeat (go_big_quiet_step (first | (go_at_call_of 76 (Value.slice A n c); exact Calls.inClass HST (CGA.out _)) | (go_at_call_of 76 (Value.slice A2 m c3); exact Calls.inClass HST (CGB.out _))))
    refine wpQuiet_nil ?_
    rintro _ ⟨x, rfl⟩
    have HBX := Lib.hid (HTT.out x)
    clear m0 m1 m2 m3 m4 m5 m6 m7 m8
    generalize f x = wq at HBX ⊢
    obtain ⟨s0, s1, s2, s3, s4⟩ := HSR.out wq HBX.out
    have HB01 := Lib.hid (HB0.out.trans (HBX.out.mono HB0.out.size))
    go_wp2_with fail
    exact bodyPost_ret (v := .tuple #[.agg #[.int .i64 0, .slice none 0 0], .bool false]) (by simp [results, Try.results16, go_sem, s0, s1, s4]) rfl (RtP_no (by omega) HB01.out)
  case true =>
  have HCR : Hid (crB ss fs sa xs sb ys = true) := Lib.hid (by unfold crB; rw [HRA.out, HRB.out]; rfl)
  obtain ⟨hnet, va, hva⟩ := routeB_yes HRA.out
  have HEN : Hid (endR ss fs sa xs = va.headD 0) := Lib.hid (by unfold endR; rw [hva]; rfl)
  have HNP := Lib.hid hnet
  rw [HL1.out] at hva
  have CE : Hid (∀ x, Calls Try.prog 77 #[.agg #[.slice (some ⟨g1, 0, none⟩) n1 c1, .slice (some ⟨g2, 0, none⟩) n2 c2], .agg #[.int .i64 sa, .slice A n c]] (f x) (RetP (.int .i64 (va.headD 0)) (f x))) := Lib.hid fun x => l4End_ (c := c) (HNT.out.moved (HTT.out x)) hnet sa HN.out (HR.out.moved (HTT.out x)) hx hva
  obtain ⟨nd, hnd⟩ : ∃ nd, va.headD 0 = nd := ⟨_, rfl⟩
  rw [hnd] at CE HEN
  obtain ⟨ad, rfl⟩ : ∃ ad, A = some ad := by
    cases hxs : xs with
    | nil => rw [hxs] at hva; unfold routeN at hva; rw [if_neg (fun h => h.2 rfl)] at hva; cases hva
    | cons a r => obtain ⟨ad, e, _⟩ := HR.out 0 _ (by rw [hxs]; rfl); exact ⟨ad, e⟩
  obtain ⟨_, vb, hvb⟩ := routeB_yes HRB.out
  obtain ⟨ad2, rfl⟩ : ∃ ad, A2 = some ad := by
    cases hys : ys with
    | nil => rw [hys] at hvb; unfold routeN at hvb; rw [if_neg (fun h => h.2 rfl)] at hvb; cases hvb
    | cons a r => obtain ⟨ad, e, _⟩ := HR2.out 0 _ (by rw [hys]; rfl); exact ⟨ad, e⟩
  clear hnet hva hnd hvb
  by_cases heq : nd = sb
  case neg =>
    obtain ⟨rfl, rfl, rfl⟩ := HNO.out (fun e => heq (HEN.out.symm.trans e.2.1))
    have heb : (nd == sb) = false := beq_eq_false_iff_ne.2 heq
    have hne : decide (nd = sb) = false := decide_eq_false heq
    have hnb : decide (nd ≠ sb) = true := decide_eq_true heq
    have hnq : (nd != sb) = true := bne_iff_ne.2 heq
    refine wp_region_class f (by kernel_rfl) (by kernel_rfl) x0 HXX.out ?_
    repeat (go_big_quiet_step (first | (go_at_call_of 76 (Value.slice (some ad) n c); exact Calls.inClass HST (CGA.out _)) | (go_at_call_of 76 (Value.slice (some ad2) m c3); exact Calls.inClass HST (CGB.out _)) | (go_at_call 77; exact Calls.inClass HST (CE.out _))))
    refine wpQuiet_nil ?_
    rintro _ ⟨x, rfl⟩
    have HBX := Lib.hid (HTT.out x)
    clear m0 m1 m2 m3 m4 m5 m6 m7 m8
    generalize f x = wq at HBX ⊢
    obtain ⟨s0, s1, s2, s3, s4⟩ := HSR.out wq HBX.out
    have HB01 := Lib.hid (HB0.out.trans (HBX.out.mono HB0.out.size))
    go_wp2_with fail
    exact bodyPost_ret (v := .tuple #[.agg #[.int .i64 0, .slice none 0 0], .bool false]) (by simp [results, Try.results16, go_sem, s0, s1, s4]) rfl (RtP_no (by omega) HB01.out)
  case pos =>
  subst heq
  refine wp_region_class f (by kernel_rfl) (by kernel_rfl) x0 HXX.out ?_
  repeat (go_big_quiet_step (first | (go_at_call_of 76 (Value.slice (some ad) n c); exact Calls.inClass HST (CGA.out _)) | (go_at_call_of 76 (Value.slice (some ad2) m c3); exact Calls.inClass HST (CGB.out _)) | (go_at_call 77; exact Calls.inClass HST (CE.out _))))
  refine wpQuiet_nil ?_
  rintro _ ⟨x, rfl⟩
  have HBX := Lib.hid (HTT.out x)
  clear m0 m1 m2 m3 m4 m5 m6 m7 m8
  generalize f x = w3 at HBX ⊢
  have HB03 := Lib.hid (HB0.out.trans (HBX.out.mono HB0.out.size))
  clear CGA CGB CE HST HXX HTT
  obtain ⟨l0, l1, l2, l3, l4, l5, l6⟩ := HK.out w3 HBX.out
  go_wp2_with fail
  obtain ⟨i0, hi, hz0_, hz1_, hz2_⟩ := info_parts Try.inf_int
  have HI := Lib.hid hi; have HZ0 := Lib.hid hz0_; have HZ1 := Lib.hid hz1_; have HZ2 := Lib.hid hz2_
  clear hi hz0_ hz1_ hz2_
  have CO : Hid (∀ U, Below W0.heap.size W0 U → Calls Try.prog 78 #[.slice (some ad) n c] U fun e w' => ∃ A1 d1, e = .returned (.slice A1 n d1) ∧ Hid (w'.ownsRow W0.heap.size 3 1 (.slice A1 n d1) n (xs.map (Value.int .i64))) ∧ Below W0.heap.size W0 w' ∧ Below U.heap.size U w') := Lib.hid fun U hU => (own_ ad n c xs U HN.out hx (HR.out.moved hU)).mono fun e w' ⟨A1, N1, d1, h1, h2, h3, h4⟩ => by
    obtain rfl : N1 = n := h2.out.trans HN.out
    exact ⟨A1, d1, h1, Lib.hid (own_base h3 hU.size), hU.trans (h4.mono hU.size), h4⟩
  have RDN : Hid (∀ U, Below W0.heap.size W0 U → ∀ (j : Nat) (u : Value), (ys.map (Value.int .i64))[j]? = some u → U.cell? (ad2.add j) = some u) := Lib.hid fun U hU j u hu => by
    obtain ⟨ad', e, hl, hc⟩ := (HR2.out.moved hU) j u hu
    have e2 : ad2 = ad' := Option.some.inj e
    rw [e2]; exact hc
  have HBX0 := HBX.out
  have SZ3 := HBX.out.size
  have hq1 : w.heap.size + 1 < w3.heap.size := by omega
  have hq2 : w.heap.size + 1 + 1 < w3.heap.size := by omega
  go_upto_region 3 with fail
  go_cut [8] (fun s8 wx => JrRel W0 sa (xs ++ ys) (n + m) s8 wx)
  case first =>
    go_region_law (first
      | ((refine step_app (by rfl) (.tmp 32) (.tmp 34) 26 (by rfl) W0.heap.size 3 i0 (.int .i64 0) 1 8 Try.underlying26 HI.out HZ0.out HZ1.out HZ2.out rfl (by decide) (.slice A1 n d1) n (xs.map (Value.int .i64)) (by rfl) (by first | exact HXS.out | exact HXS.out.alloc _ | exact own_heapW (by rfl) HXS.out) ad2 m c3 (ys.map (Value.int .i64)) (by rfl) (by rw [List.length_map, HM.out, Nat.mul_one]) (RDN.out _ (by first | exact hv1 | exact hv1.alloc hv1.size _)) (news_ints ys) (by unfold maxLen; omega) (by omega) (by first | exact hv1.size | exact (hv1.alloc hv1.size _).size) ?_); intro v2 w4 hown4 hgrow4; obtain ⟨A4, d4, rfl⟩ := formOf hown4; have hb4 : Below W0.heap.size W0 w4 := Below.grown (by first | exact hv1 | exact hv1.alloc hv1.size _) hgrow4 (by first | exact hv1.size | exact (hv1.alloc hv1.size _).size) (fun g9 hg9 => (HXS.out.lt g9 hg9).1); (first | (have hbx4 := (own_type_apart hbx HXS.out (by decide)).kept hbx hgrow4; obtain ⟨_, _, _, _, _⟩ := rx_facts hbx4) | (have hbx4 := (own_type_apart (one_rowR u1 (.int .i64 0) (.slice none 0 0) rfl rfl (base := W0.heap.size) hv1.size) (HXS.out.alloc _) (by decide)).kept (one_rowR u1 (.int .i64 0) (.slice none 0 0) rfl rfl (base := W0.heap.size) hv1.size) hgrow4; obtain ⟨_, _, _, _, _⟩ := rx_facts hbx4) | skip); obtain ⟨_, _, _, _, _, _, hz9⟩ := HK.out w4 hb4; have hq1 : w.heap.size + 1 < w4.heap.size := (by omega); have hq2 : w.heap.size + 1 + 1 < w4.heap.size := (by omega))
      | (rw [if_pos (by simp [Region.wanted])]; go_simp; go_at_call 78; refine (CO.out _ (by first | exact HBX0 | exact HBX0.drew | exact drewN_below HBX0 _ | exact HBX0.alloc HBX0.size _ | exact (HBX0.alloc HBX0.size _).drew | exact drewN_below (HBX0.alloc HBX0.size _) _ | exact HBX0.drew.alloc HBX0.drew.size _ | exact (drewN_below HBX0 _).alloc (drewN_below HBX0 _).size _)).mono ?_; rintro e u1 ⟨A1, d1, rfl, HXS, hv1, hb9⟩; (first | (have hbx := ownB (own_heapW (w := w3.alloc (Obj.cells #[.int .i64 0, .slice none 0 0] 31)) (by rfl) (one_rowR w3 (.int .i64 0) (.slice none 0 0) rfl rfl (base := W0.heap.size) SZ3)) hb9; obtain ⟨_, _, _, _, _⟩ := rx_facts hbx) | skip); obtain ⟨_, _, _, _, _, _, hz9⟩ := HK.out u1 hv1; have hq1 : w.heap.size + 1 < u1.heap.size := (by omega); have hq2 : w.heap.size + 1 + 1 < u1.heap.size := (by omega)))
    all_goals
      rw [← List.map_append] at hown4
      go_wp2_with fail
      go_meet
      first
        | exact jr_fin hbx4 hown4 hb4
        | exact jr_fin2 hown4 hb4
        | exact jr_fin (own_heapW (by rfl) hbx4) (own_heapW (by rfl) hown4) (by first | exact hb4 | exact hb4.drew | exact drewN_below hb4 _)
        | exact jr_fin2 (own_heapW (by rfl) hown4) (by first | exact hb4 | exact hb4.drew | exact drewN_below hb4 _)
  case rest =>
  clear l0 l1 l2 l3 l4 l5 l6 hq1 hq2 SZ3 HBX0
  revert hcut; generalize wc = w5; intro hcut
  obtain ⟨A4, c4, bx, rfl, HRW, HBR, hb5⟩ := hcut
  have HBB5 := Lib.hid hb5
  have HB05 := Lib.hid (HB0.out.trans (hb5.mono HB0.out.size))
  have hlx : n ≤ 14 ∧ m ≤ 14 := by
    have h4 := HNP.out.2.1
    have hxn := HN.out; have hym := HM.out
    obtain ⟨h1, h2⟩ := route_nodup HRA.out
    have h3 := nodup_bound fs.length _ h1 h2
    obtain ⟨h5, h6⟩ := route_nodup HRB.out
    have h7 := nodup_bound fs.length _ h5 h6
    omega
  have CG5 := Lib.hid (l4Good_ (c := c4) (HNT.out.moved hb5) sa (fl := xs ++ ys) (n := n + m) (by rw [List.length_append, HN.out, HM.out]) (rdOwnA HRW.out) (by omega))
  obtain ⟨br, hbr⟩ : ∃ b, routeB ss fs sa (xs ++ ys) = b := ⟨_, rfl⟩
  rw [hbr] at CG5
  have HBR2 := Lib.hid hbr
  obtain ⟨l0, l1, l2, l3, l4, l5, l6⟩ := HK.out w5 hb5
  obtain ⟨x0, x1, x2, x3, x4⟩ := rx_facts HBR.out
  have hq1 : w.heap.size + 1 < w5.heap.size := by omega
  have hq0 : w.heap.size < w5.heap.size := by omega
  clear hbr hb5
  go_wp2_with fail
  clear l0 l1 l2 l3 l4 l5 l6 x0 x1 x2 x3 x4 hq0 hq1
  refine CG5.out.mono ?_
  rintro e w6 ⟨rfl, hb6⟩
  have HBB6 := Lib.hid (HBB5.out.trans (hb6.mono HBB5.out.size))
  have HB06 := Lib.hid (HB0.out.trans (HBB6.out.mono HB0.out.size))
  have HRW6 := Lib.hid (ownB HRW.out hb6)
  have HBR6 := Lib.hid (ownB HBR.out hb6)
  clear hb6
  obtain ⟨s0, s1, s2, s3, s4⟩ := HSR.out w6 HBB6.out
  cases br
  case false =>
    obtain ⟨rfl, rfl, rfl⟩ := HNO.out (fun e => by have h9 := e.2.2; rw [HBR2.out] at h9; cases h9)
    go_wp2_with fail
    exact bodyPost_ret (v := .tuple #[.agg #[.int .i64 0, .slice none 0 0], .bool false]) (by simp [results, Try.results16, go_sem, s0, s1, s4]) rfl (RtP_no (by omega) HB06.out)
  case true =>
    obtain ⟨hS9, hL9, hb9⟩ := HYES.out ⟨HCR.out, HEN.out, HBR2.out⟩
    obtain ⟨x0, x1, x2, x3, x4⟩ := rx_facts HBR6.out
    go_wp2_with fail
    rw [hS9, hL9, hb9]
    clear x0 x1 x2 x3 x4
    exact bodyPost_ret (v := .tuple #[.agg #[.int .i64 sa, .slice A4 (n + m) c4], .bool true]) (by simp [results, Try.results16, go_sem, s0, s1, s4]) rfl (RtP_fin (B := W0.heap.size) (by omega) (by have := HSZ.out; omega) (by rw [List.length_append, HN.out, HM.out]) HRW6.out HB06.out)
end Go.Proofs.Ytflniajjecfgeaa
