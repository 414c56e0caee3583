/- What sharing saves: contract of impl.SharedSaving. Condition: the table of math/bits holds what Go's text lays. -/
import Derived.Test.YtlgkjidginibdaaDoorSsS
namespace Go.Proofs.YtlgkjidginibdaaDoor
open Go.ChangeShapes Go.WideShapes Go.ChangeAt Go.RowKit

set_option maxHeartbeats 1000000 in
theorem ssc1_ (i k s1 x1 y1 s2 x2 y2 z : Int) (A : Option Addr) (n c : Nat) (A2 : Option Addr) (m c2 : Nat) (w : World) (hz : y2 * (m : Int) = z) (h0 : 0 ≤ z) (h1 : z ≤ 336) (hm : m ≤ 1048576) :
    Calls Tryd.prog 44 #[.agg #[.int .i64 i, .int .i64 k, .int .i64 s1, .slice A n c, .int .i64 x1, .int .i64 y1, .int .i64 s2, .slice A2 m c2, .int .i64 x2, .int .i64 y2]] w (RetP (.int .i64 z) w) := by
  obtain ⟨W0, hW0⟩ : ∃ W0, w.alloc (Obj.cells #[.int .i64 i, .int .i64 k, .int .i64 s1, .slice A n c, .int .i64 x1, .int .i64 y1, .int .i64 s2, .slice A2 m c2, .int .i64 x2, .int .i64 y2] 67) = W0 := ⟨_, rfl⟩
  have hb0 : Below w.heap.size w W0 := by rw [← hW0]; exact (Below.refl _ _).alloc (Nat.le_refl _) _
  have k0 : W0.cell? ⟨w.heap.size, 7, none⟩ = some (.slice A2 m c2) := by rw [← hW0]; simp [go_sem]
  have k1 : W0.cell? ⟨w.heap.size, 9, none⟩ = some (.int .i64 y2) := by rw [← hW0]; simp [go_sem]
  have hz0 : w.heap.size < W0.heap.size := by rw [← hW0]; simp
  have HB0 := Lib.hid hb0
  clear hb0
  go_enter Tryd.func44, Tryd.ntmps44
  go_upto_region 1 with fail
  try rw [hW0]
  clear hW0
  go_wp2
  go_ret
  exact ⟨rfl, HB0.out⟩
set_option maxHeartbeats 1000000 in
theorem ssc2_ (m : Nat) (w : World) (h : m ≤ 16777215) : Calls Tryd.prog 46 #[.int .i64 (m : Int)] w (RetP (.int .i64 (popN m 24 : Int)) w) := by
  have C := Lib.hid (ones_ m w h)
  have hw : IntKind.u64.wrap (m : Int) = (m : Int) := by rw [IntKind.wrap_u64]; omega
  go_enter Tryd.func46, Tryd.ntmps46
  go_wp2_with fail
  refine C.out.mono ?_
  rintro e w' ⟨rfl, rfl⟩
  go_wp2
  go_ret
  exact ⟨rfl, Below.refl _ _⟩
set_option maxRecDepth 100000 in
set_option maxHeartbeats 4000000 in
theorem sssum_ {g3 n3 B n : Nat} {ys : List Sv} {ds : List SvD} {w : World} (hT : Svs B g3 n3 ys w) (hd : ys.map Sv.d = ds) (hs : n3 ≤ 8) (hH : ssH ds n) (hn : n ≤ 14) :
    Calls Tryd.prog 43 #[.slice (some ⟨g3, 0, none⟩) n3 n3, .func (.func 44) #[] #[]] w (RetP (.int .i64 (rsv ds n3)) w) := by
  have HT := Lib.hid hT; have HD := Lib.hid hd; have HH := Lib.hid hH
  have HLD : Hid (ds.length = n3) := Lib.hid (by rw [← hd, List.length_map]; exact hT.len)
  clear hT hd hH
  go_enter Tryd.func43, Tryd.ntmps43
  go_wp2
  go_loopw [5, 10] (fun v i wr => ∃ (k : Nat) (x : Int), k ≤ n3 ∧ i = .int .i64 k ∧ v = .int .i64 x ∧ Hid (rsv ds k = x) ∧ Below w.heap.size w wr) (fun _ i _ => n3 - (intOf i).toNat)
  case atStart => exact ⟨0, 0, Nat.zero_le _, rfl, rfl, Lib.hid rfl, Below.refl _ _⟩
  case round =>
    obtain ⟨k, x, hk, rfl, rfl, HX, hb⟩ := hrel
    have HBR := Lib.hid hb
    by_cases hlt : k < n3
    case neg =>
      obtain rfl : n3 = k := by omega
      have HE : Hid (x = rsv ds n3) := Lib.hid HX.out.symm
      clear hb hlt
      go_wp2
      go_ret
      exact ⟨by rw [← HE.out]; rfl, HBR.out⟩
    case pos =>
    have hxb := rsv_in HH.out hn k (by have := HLD.out; omega)
    rw [HX.out] at hxb
    have hkl : k < ys.length := by have := HT.out.len; omega
    obtain ⟨y, hke⟩ : ∃ y, ys[k]'hkl = y := ⟨_, rfl⟩
    have HDK := Lib.hid (svn_at HD.out hkl hke)
    have hyat : SvAt w y := by rw [← hke]; exact HT.out.at_ _ (List.getElem_mem hkl)
    have hz9 := rsv_one HH.out hn (k := k) (by have := HLD.out; omega)
    have HS : Hid (rsv ds (k + 1) = x + y.y2 * (y.m : Int)) := Lib.hid (by rw [rsv, HX.out, HDK.out]; show x + y.y2 * (y.us.length : Int) = _; rw [hyat.2.1])
    rw [HDK.out] at hz9
    have e9 : (y.d.y2 * (y.d.us.length : Int)) = y.y2 * (y.m : Int) := by show y.y2 * (y.us.length : Int) = _; rw [hyat.2.1]
    rw [e9] at hz9
    obtain ⟨z, hz⟩ : ∃ z, y.y2 * (y.m : Int) = z := ⟨_, rfl⟩
    rw [hz] at hz9 HS
    have CC : Hid (∀ U, Calls Tryd.prog 44 #[.agg #[.int .i64 y.i, .int .i64 y.k, .int .i64 y.s1, .slice y.A y.n y.c, .int .i64 y.x1, .int .i64 y.y1, .int .i64 y.s2, .slice y.A2 y.m y.c2, .int .i64 y.x2, .int .i64 y.y2]] U (RetP (.int .i64 z) U)) := Lib.hid (fun U => ssc1_ y.i y.k y.s1 y.x1 y.y1 y.s2 y.x2 y.y2 z y.A y.n y.c y.A2 y.m y.c2 U hz hz9.1 hz9.2 hyat.2.2.1)
    obtain ⟨hg3, r0, r1, r2, r3, r4, r5, r6, r7, r8, r9⟩ := (HT.out.moved hb).rd.svc hkl
    rw [Nat.zero_add, hke] at r0 r1 r2 r3 r4 r5 r6 r7 r8 r9
    clear hb hyat hke hkl e9 hz
    go_wp2_with fail
    clear r0 r1 r2 r3 r4 r5 r6 r7 r8 r9
    go_at_call 44
    refine (CC.out _).mono ?_
    rintro e w2 ⟨rfl, hb2⟩
    have HB2 : Hid (Below w.heap.size w w2) := Lib.hid (HBR.out.trans (((Below.refl wr.heap.size wr).alloc (Nat.le_refl _) _).trans (hb2.mono (by simp)) |>.mono HBR.out.size))
    clear hb2
    go_wp2
    go_roundw
    case rel => exact ⟨k + 1, x + z, by omega, by go_num, by go_num, HS, HB2.out⟩
    case measure => simp [intOf]; omega
set_option maxRecDepth 100000 in
set_option maxHeartbeats 4000000 in
theorem sspop_ {g : Int → Nat} {n d B : Nat} {A : Option Addr} {w : World} (hn : n ≤ 14) (hg : ∀ f : Nat, f < n → g (f : Int) ≤ 16777215) (ho : w.ownsRow B 3 1 (.slice A n d) n ((smL g n).map (Value.int .i64))) :
    Calls Tryd.prog 45 #[.slice A n d, .func (.func 46) #[] #[]] w (RetP (.int .i64 (ppT g n)) w) := by
  have HG := Lib.hid hg; have HO := Lib.hid ho
  clear hg ho
  go_enter Tryd.func45, Tryd.ntmps45
  go_wp2
  go_loopw [5, 10] (fun v i wr => ∃ (k : Nat) (x : Int), k ≤ n ∧ i = .int .i64 k ∧ v = .int .i64 x ∧ Hid (ppT g k = x) ∧ Below w.heap.size w wr) (fun _ i _ => n - (intOf i).toNat)
  case atStart => exact ⟨0, 0, Nat.zero_le _, rfl, rfl, Lib.hid rfl, Below.refl _ _⟩
  case round =>
    obtain ⟨k, x, hk, rfl, rfl, HX, hb⟩ := hrel
    have HBR := Lib.hid hb
    by_cases hlt : k < n
    case neg =>
      obtain rfl : n = k := by omega
      have HE : Hid (x = ppT g n) := Lib.hid HX.out.symm
      clear hb hlt
      go_wp2
      go_ret
      exact ⟨by rw [← HE.out]; rfl, HBR.out⟩
    case pos =>
    have hxb := ppT_in g k
    rw [HX.out] at hxb
    have HS : Hid (ppT g (k + 1) = x + (popN (g (k : Int)) 24 : Int)) := Lib.hid (by rw [ppT, HX.out])
    have hsl : k < (smL g n).length := by rw [smL_len]; exact hlt
    obtain ⟨ad, rfl, had, hcx⟩ := ints_at (Rd.ofOwn (ownB HO.out HBR.out)) hsl
    rw [smL_get] at hcx
    have hpl := popN_le (g (k : Int)) 24
    have CC := Lib.hid (fun U => ssc2_ (g (k : Int)) U (HG.out k hlt))
    obtain ⟨u, hu⟩ : ∃ u, g (k : Int) = u := ⟨_, rfl⟩
    rw [hu] at hcx CC HS hpl
    obtain ⟨p, hp⟩ : ∃ p, popN u 24 = p := ⟨_, rfl⟩
    rw [hp] at CC HS hpl
    clear hb hsl hu hp
    go_wp2_with fail
    clear hcx had
    go_at_call 46
    refine (CC.out _).mono ?_
    rintro e w2 ⟨rfl, hb2⟩
    have HB2 : Hid (Below w.heap.size w w2) := Lib.hid (HBR.out.trans (hb2.mono HBR.out.size))
    clear hb2
    go_wp2
    go_roundw
    case rel => exact ⟨k + 1, x + (p : Int), by omega, by go_num, by go_num, HS, HB2.out⟩
    case measure => simp [intOf]; omega
set_option maxRecDepth 100000 in
set_option maxHeartbeats 4000000 in
theorem implSS {g1 g2 g3 n1 n2 n3 c1 c2 B : Nat} {ss : List ByteArray} {fs : List Q4} {ys : List Sv} {ds : List SvD} {w : World} (h : NetAt g1 g2 n1 n2 c1 c2 ss fs w) (hT : Svs B g3 n3 ys w) (hd : ys.map Sv.d = ds) (hs : n3 ≤ 1048576) (hTab : Tab w) :
    Calls Tryd.prog 20 #[.agg #[.slice (some ⟨g1, 0, none⟩) n1 c1, .slice (some ⟨g2, 0, none⟩) n2 c2], .slice (some ⟨g3, 0, none⟩) n3 n3] w (RetP (ssR ss fs ds) w) := by
  have HL2 := Lib.hid h.ln2
  have HT := Lib.hid hT; have HD := Lib.hid hd
  have HLD : Hid (ds.length = n3) := Lib.hid (by rw [← hd, List.length_map]; exact hT.len)
  obtain ⟨rb, hrb⟩ : ∃ r, pb (svsP ss fs ds) = r := ⟨_, rfl⟩
  obtain ⟨rv, hrv⟩ : ∃ r, ssR ss fs ds = r := ⟨_, rfl⟩
  have HRB := Lib.hid hrb; have HRV := Lib.hid hrv
  have CS : Hid (∀ U, Below w.heap.size w U → Calls Tryd.prog 11 #[.agg #[.slice (some ⟨g1, 0, none⟩) n1 c1, .slice (some ⟨g2, 0, none⟩) n2 c2], .slice (some ⟨g3, 0, none⟩) n3 n3] U (SmP (smW ss fs ds) (smU ss fs ds) rb U)) := Lib.hid (fun U hU => by rw [← hrb]; exact implSM (h.moved hU) (hT.moved hU) hd hs (hTab.over hU))
  rw [hrv]
  clear h hT hd hrb hrv hTab
  go_enter Tryd.func20, Tryd.ntmps20
  go_wp2_with fail
  have HB0 : Hid (Below w.heap.size w (w.alloc (Obj.cells #[.slice (some ⟨g1, 0, none⟩) n1 c1, .slice (some ⟨g2, 0, none⟩) n2 c2] 34))) := Lib.hid ((Below.refl _ _).alloc (Nat.le_refl _) _)
  refine (CS.out _ HB0.out).mono ?_
  rintro e w1 ⟨A1, A2, N1, N2, d1, d2, rfl, HN1, HN2, ho1, ho2, HAP, hb1⟩
  have HB1 := Lib.hid (HB0.out.trans (hb1.mono HB0.out.size))
  have HO2 := Lib.hid ho2
  clear hb1 ho1 ho2 CS
  cases rb
  case false =>
    have HE := Lib.hid (HRV.out.symm.trans (ss_no HRB.out).symm).symm
    go_wp2
    go_ret2
    exact ⟨by rw [← HE.out]; rfl, HB1.out⟩
  case true =>
  have HV := Lib.hid (of_pb HRB.out)
  have HH := Lib.hid (ssH_of HV.out)
  have H8 : Hid (ds.length ≤ 8) := Lib.hid HV.out.2.1
  have hn8 : n3 ≤ 8 := by have := H8.out; have := HLD.out; omega
  have hn14 : n2 ≤ 14 := by have := HV.out.1.2.1; have := HL2.out; omega
  have HU := Lib.hid (sm_yes HRB.out).2
  rw [HL2.out] at HU HH
  obtain rfl : N2 = n2 := by rw [HN2.out, HU.out, smL_len]
  have HE := Lib.hid (HRV.out.symm.trans (ss_yes HRB.out).symm).symm
  have HQ := Lib.hid (ss_eq HRB.out)
  rw [HLD.out, HL2.out] at HQ
  rw [HL2.out] at HE
  have HO2b : Hid (w1.ownsRow (w.alloc (Obj.cells #[.slice (some ⟨g1, 0, none⟩) n1 c1, .slice (some ⟨g2, 0, none⟩) N2 c2] 34)).heap.size 3 1 (.slice A2 N2 d2) N2 ((smL (spN ds) N2).map (Value.int .i64))) := Lib.hid (by rw [← HU.out]; exact HO2.out)
  have C1 := Lib.hid (sssum_ (HT.out.moved HB1.out) HD.out hn8 HH.out hn14)
  have C2 : Hid (∀ U, Below w1.heap.size w1 U → Calls Tryd.prog 45 #[.slice A2 N2 d2, .func (.func 46) #[] #[]] U (RetP (.int .i64 (ppT (spN ds) N2)) U)) := Lib.hid (fun U hU => sspop_ hn14 (fun f _ => by have h9 := orK_lt (Z := SvD.us) (P := spP) (ds := ds) (f := (f : Int)) (fun i hi e => (HH.out i hi).2.2 e) ds.length (Nat.le_refl _); show orK _ _ _ _ _ ≤ _; omega) (ownB HO2b.out hU))
  have hr9 := rsv_in HH.out hn14 n3 (by have := HLD.out; omega)
  have hp9 := ppT_in (spN ds) N2
  obtain ⟨a, ha⟩ : ∃ a, rsv ds n3 = a := ⟨_, rfl⟩
  obtain ⟨b, hb9⟩ : ∃ a, ppT (spN ds) N2 = a := ⟨_, rfl⟩
  rw [ha] at C1 HQ hr9; rw [hb9] at C2 HQ hp9
  rw [← HQ.out] at HE
  clear ha hb9 HO2 HN2
  go_wp2_with fail
  go_at_call 43
  refine C1.out.mono ?_
  rintro e w2 ⟨rfl, hb2⟩
  have HB2 := Lib.hid (HB1.out.trans (hb2.mono HB1.out.size))
  have HB2a := Lib.hid hb2
  clear hb2
  go_wp2_with fail
  go_at_call 45
  refine (C2.out _ HB2a.out).mono ?_
  rintro e w3 ⟨rfl, hb3⟩
  have HB3 := Lib.hid (HB2.out.trans (hb3.mono HB2.out.size))
  clear hb3
  go_wp2
  go_ret2
  exact ⟨by rw [← HE.out]; rfl, HB3.out⟩
end Go.Proofs.YtlgkjidginibdaaDoor
