/- The lights that each risk group hits: contract of spec.l25Hits. No condition but those typed. -/
import Derived.Test.YtbnfogedmjjiaaaDoorGD
import Derived.Test.YtbnfogedmjjiaaaDoorGrpS
import Derived.Test.YtbnfogedmjjiaaaDoorBoth
import Derived.Test.YtbnfogedmjjiaaaDoorGB
import Derived.Test.YtbnfogedmjjiaaaDoorCaH
namespace Go.Proofs.YtbnfogedmjjiaaaDoor
open Go.ChangeShapes Go.WideShapes Go.ChangeAt Go.RowKit Go.Maps

/-- the lights among the first k that a risk group hits. -/
def hitK (ds : List LtD) (g : List Int) : Nat → Nat
  | 0 => 0
  | k + 1 => if ((dn ds k).zs.any fun f => decide (f ∈ g)) = true then hitK ds g k ||| 2 ^ k else hitK ds g k
theorem hit_yes {ds : List LtD} {g : List Int} {k : Nat} (h : ((dn ds k).zs.any fun f => decide (f ∈ g)) = true) : hitK ds g (k + 1) = hitK ds g k ||| 2 ^ k := by rw [hitK, if_pos h]
theorem hit_no {ds : List LtD} {g : List Int} {k : Nat} (h : ((dn ds k).zs.any fun f => decide (f ∈ g)) = false) : hitK ds g (k + 1) = hitK ds g k := by rw [hitK, if_neg (by rw [h]; decide)]
theorem hit_lt {ds : List LtD} {g : List Int} : ∀ {k : Nat}, hitK ds g k < 2 ^ k
  | 0 => by show (0 : Nat) < 2 ^ 0; decide
  | k + 1 => by
    have ih := hit_lt (ds := ds) (g := g) (k := k)
    have h1 : hitK ds g k < 2 ^ (k + 1) := Nat.lt_trans ih (Nat.pow_lt_pow_right (by decide) (by omega))
    unfold hitK
    split
    · exact Nat.or_lt_two_pow h1 (Nat.pow_lt_pow_right (by decide) (by omega))
    · exact h1
def hitN (ds : List LtD) (g : List Int) : Nat := hitK ds g ds.length
def htK (ds : List LtD) (gs : List (List Int)) (k : Nat) : List Int := (gs.take k).map fun g => (hitN ds g : Int)
theorem ht_snoc {ds : List LtD} {gs : List (List Int)} {k : Nat} (hk : k < gs.length) {g : List Int} (hg : gs[k] = g) : htK ds gs (k + 1) = htK ds gs k ++ [(hitN ds g : Int)] := by
  unfold htK; rw [List.take_succ_eq_append_getElem hk, List.map_append, hg]; rfl
theorem ht_len {ds : List LtD} {gs : List (List Int)} {k : Nat} (hk : k ≤ gs.length) : (htK ds gs k).length = k := by unfold htK; rw [List.length_map, List.length_take]; omega
def htL (ds : List LtD) (gs : List (List Int)) : List Int := gs.map fun g => (hitN ds g : Int)
theorem ht_all {ds : List LtD} {gs : List (List Int)} : htK ds gs gs.length = htL ds gs := by unfold htK htL; rw [List.take_length]

set_option maxRecDepth 100000 in
set_option maxHeartbeats 8000000 in
theorem l25Hits_ {g1 g2 g3 n1 n2 n3 c1 c2 B : Nat} {ss : List ByteArray} {fs : List Q4} {ys : List Lt} {ds : List LtD} {w : World} (h : NetAt g1 g2 n1 n2 c1 c2 ss fs w) (hT : Lts B g3 n3 ys w) (hd : ys.map Lt.d = ds) (hs : n3 ≤ 1048576) (hv : netP ss fs) (hl : n3 ≤ 12) :
    Calls Tryd.prog 126 #[.agg #[.slice (some ⟨g1, 0, none⟩) n1 c1, .slice (some ⟨g2, 0, none⟩) n2 c2, .slice (some ⟨g3, 0, none⟩) n3 n3]] w (IntsO (htL ds (rgL fs)) w) := by
  have HNT := Lib.hid h; have HT := Lib.hid hT; have HD := Lib.hid hd
  have HLD : Hid (ds.length = n3) := Lib.hid (by rw [← hd, List.length_map]; exact hT.len)
  have hgl : (rgL fs).length ≤ 14 := by have := rgp_len fs; have := hv.2.1; omega
  have HGS : Hid (∀ g ∈ rgL fs, g.length ≤ 14) := Lib.hid (fun g hg => by have := rgp_le hg; have := hv.2.1; omega)
  have HV := Lib.hid hv
  have CL := Lib.hid (fun (W : World) (hb : Below w.heap.size w W) => l2Groups_ (HNT.out.moved hb) HV.out)
  obtain ⟨gs, hgs⟩ : ∃ gs, rgL fs = gs := ⟨_, rfl⟩
  rw [hgs] at hgl HGS CL ⊢
  clear h hT hd hv hgs
  go_enter Tryd.func126, Tryd.ntmps126
  go_wp2_with fail
  obtain ⟨W0, hW0⟩ : ∃ W0, w.alloc (Obj.cells #[.slice (some ⟨g1, 0, none⟩) n1 c1, .slice (some ⟨g2, 0, none⟩) n2 c2, .slice (some ⟨g3, 0, none⟩) n3 n3] 82) = W0 := ⟨_, rfl⟩
  have hb0 : Below w.heap.size w W0 := by rw [← hW0]; exact (Below.refl _ _).alloc (Nat.le_refl _) _
  have k0 : W0.cell? ⟨w.heap.size, 0, none⟩ = some (.slice (some ⟨g1, 0, none⟩) n1 c1) := by rw [← hW0]; simp [go_sem]
  have k1 : W0.cell? ⟨w.heap.size, 1, none⟩ = some (.slice (some ⟨g2, 0, none⟩) n2 c2) := by rw [← hW0]; simp [go_sem]
  have k2 : W0.cell? ⟨w.heap.size, 2, none⟩ = some (.slice (some ⟨g3, 0, none⟩) n3 n3) := by rw [← hW0]; simp [go_sem]
  have hz0 : w.heap.size < W0.heap.size := by rw [← hW0]; simp
  have HB0 := Lib.hid hb0; have HK0 := Lib.hid k0; have HK1 := Lib.hid k1; have HK2 := Lib.hid k2; have HZ0 := Lib.hid hz0
  rw [hW0]
  clear hW0 hb0
  refine (CL.out _ HB0.out).mono ?_
  clear k0 k1 k2 hz0
  rintro e w1 ⟨A0, N0, d0, zs, rfl, HGD, hR3, hb1⟩
  have HB1 := Lib.hid (HB0.out.trans (hb1.mono HB0.out.size))
  have HB1W := Lib.hid hb1
  have HRW := Lib.hid hR3
  have HNL : Hid (N0 = gs.length) := Lib.hid (by have h1 := hR3.len; have h2 := congrArg List.length HGD.out; rw [List.length_map] at h2; omega)
  have hn0 : N0 ≤ 14 := by have := HNL.out; omega
  have HZ1 : Hid (w.heap.size < w1.heap.size) := Lib.hid (Nat.lt_of_lt_of_le HZ0.out hb1.size)
  have HC2 := Lib.hid ((hb1.cell (p := ⟨w.heap.size, 2, none⟩) HZ0.out).trans HK2.out)
  clear hb1 hR3
  have HE0 := Lib.hid ((Below.refl w1.heap.size w1).alloc (Nat.le_refl _) (Obj.cells #[] 3))
  have HOE : Hid ((w1.alloc (Obj.cells #[] 3)).ownsRow w1.heap.size 3 1 (.slice (some ⟨w1.heap.size, 0, none⟩) 0 0) 0 ((htK ds gs 0).map (Value.int .i64))) := Lib.hid (World.ownsRow_lit (base := w1.heap.size) (e := 3) (size := 1) w1 #[] 0 (Nat.le_refl _) (by unfold maxLen; omega) rfl)
  go_wp2
  go_loopw [4, 5] (fun v i wr => ∃ (k : Nat) (A1 : Option Addr) (N1 d1 : Nat), k ≤ N0 ∧ i = .int .i64 k ∧ v = .slice A1 N1 d1 ∧ N1 = k ∧ Hid (wr.ownsRow w1.heap.size 3 1 (.slice A1 N1 d1) N1 ((htK ds gs k).map (Value.int .i64))) ∧ Below w1.heap.size w1 wr) (fun _ i _ => N0 - (intOf i).toNat)
  case atStart => exact ⟨0, _, 0, _, Nat.zero_le _, rfl, rfl, rfl, HOE, HE0.out⟩
  case round =>
    obtain ⟨k, A1, N1, d1, hk, rfl, rfl, rfl, HOW, hb⟩ := hrel
    have HBR := Lib.hid hb
    have HSZ : Hid (w1.heap.size ≤ wr.heap.size) := Lib.hid hb.size
    clear hb
    obtain ⟨wo, rfl⟩ : ∃ wo, wo = wr := ⟨wr, rfl⟩
    by_cases hlt : N1 < N0
    case neg =>
      have HF : Hid (htL ds gs = htK ds gs N1) := Lib.hid (by rw [← ht_all]; congr 1; have := HNL.out; omega)
      have HLN : Hid (N1 = (htL ds gs).length) := Lib.hid (by rw [HF.out, ht_len (by have := HNL.out; omega)])
      have hlt2 : ¬ (N1 : Int) < N0 := by omega
      clear hlt
      go_wp2
      go_ret
      exact ⟨A1, N1, d1, rfl, HLN, by rw [HF.out]; exact own_base HOW.out HB1.out.size, HB1.out.trans (HBR.out.mono HB1.out.size)⟩
    case pos =>
    have hkz : N1 < zs.length := by have := HRW.out.len; omega
    have hkl : N1 < gs.length := by have := HNL.out; omega
    obtain ⟨y, hy⟩ : ∃ y, zs[N1]'hkz = y := ⟨_, rfl⟩
    obtain ⟨g, hA0, hg, hc, ho⟩ := HRW.out.at_ hkz hy
    have hz : y.zs = gs[N1] := by
      have h9 := congrArg (fun l : List (List Int) => l[N1]?) HGD.out
      simp only [List.getElem?_map, List.getElem?_eq_getElem hkz, List.getElem?_eq_getElem hkl, hy, Option.map_some] at h9
      injection h9
    have hgl2 := HGS.out gs[N1] (List.getElem_mem hkl)
    rw [← hz] at hgl2
    have HGK : Hid (gs[N1]'hkl = y.zs) := Lib.hid hz.symm
    obtain ⟨yA, yn, yc, zz⟩ := y
    obtain ⟨e1, o1⟩ := ho
    simp only at e1 o1 hc hgl2 HGK
    have hyn : yn ≤ 1048576 := by omega
    have HRD := Lib.hid (Rd.ofOwn o1)
    have HEL := Lib.hid e1.symm
    have HCC := Lib.hid hc; have HGG := Lib.hid hg
    have k2 := (HBR.out.cell (p := ⟨w.heap.size, 2, none⟩) HZ1.out).trans HC2.out
    have hz1 : w.heap.size < wo.heap.size := Nat.lt_of_lt_of_le HZ1.out HBR.out.size
    subst hA0
    clear hy hz e1 o1 hc hg hgl2
    go_wp2
    clear k2 hz1
    go_loopw [6, 7] (fun v i wx => ∃ (j m : Nat), j ≤ n3 ∧ i = .int .i64 j ∧ v = .int .i64 m ∧ Hid (hitK ds zz j = m) ∧ m < 2 ^ 12 ∧ Below wo.heap.size wo wx) (fun _ i _ => n3 - (intOf i).toNat)
    case atStart => exact ⟨0, 0, Nat.zero_le _, rfl, rfl, Lib.hid rfl, by decide, Below.refl _ _⟩
    case round =>
      obtain ⟨j, m, hj, rfl, rfl, HM, hm, hbx⟩ := hrel
      have HBX0 := Lib.hid (HBR.out.trans (hbx.mono HBR.out.size))
      have HBY := Lib.hid (HB1.out.trans (HBX0.out.mono HB1.out.size))
      have HBZ := Lib.hid hbx
      clear hbx
      by_cases hlj : j < n3
      case neg =>
        have HOD := Lib.hid (ownB HOW.out HBZ.out)
        have HTO : Hid (htK ds gs (N1 + 1) = htK ds gs N1 ++ [(m : Int)]) := Lib.hid (by rw [ht_snoc hkl HGK.out]; congr 3; rw [← HM.out]; unfold hitN; congr 1; have := HLD.out; omega)
        have k2 := (HBX0.out.cell (p := ⟨w.heap.size, 2, none⟩) HZ1.out).trans HC2.out
        have hz1 : w.heap.size < wr.heap.size := Nat.lt_of_lt_of_le HZ1.out HBX0.out.size
        have HSX : Hid (w1.heap.size ≤ wr.heap.size) := Lib.hid HBX0.out.size
        have hlj2 : ¬ (j : Int) < n3 := by omega
        clear hlj
        go_wp2_with (at_builtin; refine wp_app rfl (.tmp 41) (.tmp 43) 29 3 rfl w1.heap.size Tryd.underlying29 Tryd.inf_int rfl (by decide) (by decide) _ N1 _ rfl (HOD.out.alloc _) _ _ [.int .i64 (m : Int)] rfl rfl (news1 (new_at_ _ _ _ _ rfl)) (news_int _) (by omega) (by have := HSX.out; simp; omega) ?_)
        intro A3 d3 N3 w4 hN3 hown3 hgrow3 hloc3
        have HB3_ := Lib.hid ((HBX0.out.alloc HSX.out _).grown hgrow3 (by have := HSX.out; simp; omega) (fun g hg => (HOD.out.lt g hg).1))
        subst hN3
        have HO3_ : Hid (w4.ownsRow w1.heap.size 3 1 (.slice A3 (N1 + 1) d3) (N1 + 1) ((htK ds gs (N1 + 1)).map (Value.int .i64))) := Lib.hid (by rw [HTO.out, List.map_append]; exact hown3)
        clear hown3 hgrow3 hloc3 k2 hz1
        go_wp2
        go_roundw
        case rel => exact ⟨N1 + 1, A3, N1 + 1, d3, by omega, by go_num, rfl, rfl, HO3_, HB3_.out⟩
        case measure => simp [intOf]; omega
      case pos =>
      have k2 := (HBX0.out.cell (p := ⟨w.heap.size, 2, none⟩) HZ1.out).trans HC2.out
      have hz1 : w.heap.size < wr.heap.size := Nat.lt_of_lt_of_le HZ1.out HBX0.out.size
      obtain ⟨T, f, x0, hx0, hTT, HST⟩ := above wr
      haveI : Nonempty T := ⟨x0⟩
      have HXX := Lib.hid hx0
      have HBX : Hid (∀ x, Below w.heap.size w (f x)) := Lib.hid (fun x => HBY.out.trans ((hTT x).mono HBY.out.size))
      have HTX : Hid (∀ x, Below wr.heap.size wr (f x)) := Lib.hid hTT
      clear hTT hx0
      have hjl : j < ys.length := by have := HT.out.len; omega
      obtain ⟨z, hze⟩ : ∃ y, ys[j]'hjl = y := ⟨_, rfl⟩
      have HDK := Lib.hid (dn_at HD.out hjl hze)
      obtain ⟨hzn, hzs, hzr⟩ := HT.out.at_ ys[j] (List.getElem_mem hjl)
      rw [hze] at hzn hzs hzr
      have hrz : ∀ x, (f x).cell? ⟨g3, j * 5 + 1, none⟩ = some (.int .i64 z.p1) ∧ (f x).cell? ⟨g3, j * 5 + 2, none⟩ = some (.slice z.A z.n z.c) := fun x => by
        obtain ⟨_, f0, f1, f2, _⟩ := (HT.out.moved (HBX.out x)).rd.ltc hjl
        rw [Nat.zero_add, hze] at f1 f2
        exact ⟨f1, f2⟩
      obtain ⟨p0, p1, zA, zn, zc, zzs, q0, q1⟩ := z
      simp only at hrz hzn hzs hzr
      have rz1 := fun x => (hrz x).1
      have rz2 := fun x => (hrz x).2
      have rk2 : ∀ x, (f x).cell? ⟨w.heap.size, 2, none⟩ = some (.slice (some ⟨g3, 0, none⟩) n3 n3) := fun x => ((HBX0.out.trans ((HTX.out x).mono HBX0.out.size)).cell (p := ⟨w.heap.size, 2, none⟩) HZ1.out).trans HC2.out
      have rg : ∀ x, (f x).cell? ⟨g, N1, none⟩ = some (.slice yA yn yc) := fun x => ((HBX0.out.trans ((HTX.out x).mono HBX0.out.size)).cell (p := ⟨g, N1, none⟩) HGG.out).trans HCC.out
      have CU : Hid (∀ x, Calls Tryd.prog 176 #[.agg #[.int .i64 p1, .slice zA zn zc], .slice yA yn yc] (f x) (RetP (.bool (zzs.any fun f => decide (f ∈ zz))) (f x))) := Lib.hid fun x =>
        l4Uses_ p1 zA zn zc zzs yA yn yc zz (f x) hzn (hzr.moved (HBX.out x)) hzs HEL.out (HRD.out.moved (HBX0.out.trans ((HTX.out x).mono HBX0.out.size))) hyn
      have HUS : Hid ((dn ds j).zs = zzs) := Lib.hid (by rw [HDK.out]; rfl)
      obtain ⟨b, hbe⟩ : ∃ b, (zzs.any fun f => decide (f ∈ zz)) = b := ⟨_, rfl⟩
      rw [hbe] at CU
      have HBE := Lib.hid hbe
      clear hrz hze hzn hzs hzr hbe
      cases b
      case false =>
        have HM2 : Hid (hitK ds zz (j + 1) = m) := Lib.hid (by rw [hit_no (by rw [HUS.out]; exact HBE.out)]; exact HM.out)
        go_wp2_with fail
        refine wp_region_class f (by kernel_rfl) (by kernel_rfl) x0 HXX.out ?_
        repeat (go_big_quiet_step (first | (go_at_call 176; exact Calls.inClass HST (CU.out _))))
        refine wpQuiet_nil ?_
        rintro _ ⟨t, rfl⟩
        have HB4 := Lib.hid (HBZ.out.trans ((HTX.out t).mono HBZ.out.size))
        clear rz1 rz2 rk2 rg k2 hz1
        go_wp2
        go_roundw
        case rel => exact ⟨j + 1, m, by omega, by go_num, rfl, HM2, hm, HB4.out⟩
        case measure => simp [intOf]; omega
      case true =>
        have HM2 : Hid (hitK ds zz (j + 1) = m ||| 2 ^ j) := Lib.hid (by rw [hit_yes (by rw [HUS.out]; exact HBE.out), HM.out])
        have hp : 2 ^ j < 2 ^ 12 := Nat.pow_lt_pow_right (by decide) (by omega)
        have hpi : (2 : Int) ^ j = ((2 ^ j : Nat) : Int) := by simp
        have hp0 : 0 ≤ (2 : Int) ^ j := Int.pow_nonneg (by omega)
        have hp1 : (2 : Int) ^ j ≤ 4096 := by rw [hpi]; omega
        have hor : bits .or .i64 (m : Int) ((2 : Int) ^ j) = ((m ||| 2 ^ j : Nat) : Int) := by rw [hpi]; exact or_i64_ m (2 ^ j) (by omega) (by omega)
        have hlm : m ||| 2 ^ j < 2 ^ 12 := Nat.or_lt_two_pow hm hp
        obtain ⟨m2, hm2⟩ : ∃ x, m ||| 2 ^ j = x := ⟨_, rfl⟩
        rw [hm2] at HM2 hor hlm
        clear hm2 hpi hp
        go_wp2_with fail
        refine wp_region_class f (by kernel_rfl) (by kernel_rfl) x0 HXX.out ?_
        repeat (go_big_quiet_step (first | (go_at_call 176; exact Calls.inClass HST (CU.out _))))
        refine wpQuiet_nil ?_
        rintro _ ⟨t, rfl⟩
        have HB4 := Lib.hid (HBZ.out.trans ((HTX.out t).mono HBZ.out.size))
        clear rz1 rz2 rk2 rg k2 hz1
        go_wp2
        go_roundw
        case rel => exact ⟨j + 1, m2, by omega, by go_num, by go_num, HM2, hlm, HB4.out⟩
        case measure => simp [intOf]; omega
end Go.Proofs.YtbnfogedmjjiaaaDoor
