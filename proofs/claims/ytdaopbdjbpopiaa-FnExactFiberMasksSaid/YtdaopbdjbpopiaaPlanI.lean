/- Plans: contracts of the implementation: lights, the slots that they occupy, valid plans. No condition but those typed. -/
import Derived.Test.YtdaopbdjbpopiaaPlanV
import Derived.Maps.OwnOps
import Derived.Maps.Views
import Derived.Deep.DeepCutAuto
namespace Go.Proofs.Ytdaopbdjbpopiaa
open Go.ChangeShapes Go.WideShapes Go.ChangeAt Go.RowKit Go.Maps

set_option maxRecDepth 100000 in
set_option maxHeartbeats 4000000 in
theorem isLight_ {g1 g2 n1 n2 c1 c2 : Nat} {ss : List ByteArray} {fs : List Q4} {w : World} (h : NetAt g1 g2 n1 n2 c1 c2 ss fs w) (hv : netP ss fs) (x : Lt) (hx : LtAt w x) :
    Calls Try.prog 134 #[.agg #[.slice (some ⟨g1, 0, none⟩) n1 c1, .slice (some ⟨g2, 0, none⟩) n2 c2], .agg #[.int .i64 x.p0, .int .i64 x.p1, .slice x.A x.n x.c, .int .i64 x.q0, .int .i64 x.q1]] w (RetP (.bool (pb (lightP ss fs x.d))) w) := by
  obtain ⟨p0, p1, A, n, c, zs, q0, q1⟩ := x
  obtain ⟨hn, hs, hr⟩ := hx
  simp only at hn hs hr ⊢
  have HNT := Lib.hid h; have HN := Lib.hid hn; have HR := Lib.hid hr; have HV := Lib.hid hv; have HL1 := Lib.hid h.ln1
  obtain ⟨r, hrr⟩ : ∃ r, pb (lightP ss fs (⟨p0, p1, A, n, c, zs, q0, q1⟩ : Lt).d) = r := ⟨_, rfl⟩
  have HP : Hid (lightP ss fs (⟨p0, p1, A, n, c, zs, q0, q1⟩ : Lt).d ↔ (1 ≤ p0 ∧ p0 ≤ 999) ∧ routeB ss fs p1 zs = true ∧ blkP q0 q1) := Lib.hid Iff.rfl
  rw [hrr]
  have HRR := Lib.hid hrr
  clear h hn hr hrr hv
  have CB := Lib.hid (fun W => implBlk q0 q1 W)
  obtain ⟨b3, hb3⟩ : ∃ b, pb (blkP q0 q1) = b := ⟨_, rfl⟩
  rw [hb3] at CB
  have H3 := Lib.hid hb3
  clear hb3
  go_enter Try.func134, Try.ntmps134
  go_wp2_with fail
  obtain ⟨W0, hW0⟩ : ∃ W0, (w.alloc (Obj.cells #[.slice (some ⟨g1, 0, none⟩) n1 c1, .slice (some ⟨g2, 0, none⟩) n2 c2] 32)).alloc (Obj.cells #[.int .i64 p0, .int .i64 p1, .slice A n c, .int .i64 q0, .int .i64 q1] 171) = W0 := ⟨_, rfl⟩
  have hb0 : Below w.heap.size w W0 := by rw [← hW0]; exact ((Below.refl _ _).alloc (Nat.le_refl _) _).alloc (by simp) _
  have l0 : W0.cell? ⟨w.heap.size + 1, 0, none⟩ = some (.int .i64 p0) := by rw [← hW0]; simp [go_sem]
  have l3 : W0.cell? ⟨w.heap.size + 1, 3, none⟩ = some (.int .i64 q0) := by rw [← hW0]; simp [go_sem]
  have l4 : W0.cell? ⟨w.heap.size + 1, 4, none⟩ = some (.int .i64 q1) := by rw [← hW0]; simp [go_sem]
  have hz0 : w.heap.size + 1 < W0.heap.size := by rw [← hW0]; simp
  have HB0 := Lib.hid hb0
  rw [hW0]
  clear hW0 hb0
  have CW := Lib.hid (walkAlong_ (c := c) (HNT.out.moved HB0.out) HV.out p1 HN.out (HR.out.moved HB0.out) hs)
  refine CW.out.mono ?_
  rintro e w1 ⟨hb1, h1⟩
  have HB1 := Lib.hid (HB0.out.trans (hb1.mono HB0.out.size))
  have m0 := (hb1.cell (p := ⟨w.heap.size + 1, 0, none⟩) hz0).trans l0
  have m3 := (hb1.cell (p := ⟨w.heap.size + 1, 3, none⟩) hz0).trans l3
  have m4 := (hb1.cell (p := ⟨w.heap.size + 1, 4, none⟩) hz0).trans l4
  clear l0 l3 l4 hz0 hb1
  rcases h1 with ⟨hs1, rfl⟩ | ⟨vs, g', hs1, rfl, _⟩
  · have HE : Hid (false = r) := Lib.hid (by rw [← HRR.out]; exact (pb_false (fun h => by have h2 := (HP.out.1 h).2.1; rw [routeB_no HV.out (by rw [HL1.out]; exact hs1)] at h2; exact absurd h2 (by decide))).symm)
    clear hs1
    go_wp2
    go_ret
    exact ⟨retb HE.out, HB1.out⟩
  · have HRB : Hid (routeB ss fs p1 zs = true) := Lib.hid (routeB_some HV.out (by rw [HL1.out]; exact hs1))
    clear hs1
    by_cases hp1 : 1 ≤ p0
    case neg =>
      have HE : Hid (false = r) := Lib.hid (by rw [← HRR.out]; exact (pb_false (fun h => hp1 (HP.out.1 h).1.1)).symm)
      have q : decide (1 ≤ p0) = false := decide_eq_false hp1
      clear hp1
      go_wp2
      go_ret
      exact ⟨retb HE.out, HB1.out⟩
    case pos =>
    by_cases hp2 : p0 ≤ 999
    case neg =>
      have HE : Hid (false = r) := Lib.hid (by rw [← HRR.out]; exact (pb_false (fun h => hp2 (HP.out.1 h).1.2)).symm)
      have q : decide (p0 ≤ 999) = false := decide_eq_false hp2
      clear hp2
      go_wp2
      go_ret
      exact ⟨retb HE.out, HB1.out⟩
    case pos =>
    have HE : Hid (b3 = r) := Lib.hid (by
      rw [← HRR.out, ← H3.out]
      by_cases hp : blkP q0 q1
      · rw [pb_true hp, pb_true (HP.out.2 ⟨⟨hp1, hp2⟩, HRB.out, hp⟩)]
      · rw [pb_false hp, pb_false (fun h => hp (HP.out.1 h).2.2)])
    go_wp2_with fail
    refine (CB.out _).mono ?_
    rintro e w3 ⟨rfl, hb3⟩
    have HB3 := Lib.hid (HB1.out.trans (hb3.mono HB1.out.size))
    clear hb3
    go_wp2
    go_ret
    exact ⟨retb HE.out, HB3.out⟩

theorem law_int : Keyed Try.prog 3 := int_keyed Try.underlying3
theorem zero_int (w : World) : (zeroValue 3).run Try.prog w = .ok (.int .i64 0) w := by kernel_rfl
abbrev Du := DataW Unit
abbrev OwnM (w : World) (B n : Nat) (D : Du) : Prop := w.ownsMap Try.prog 3 (plainElem Try.prog 3) B n D
/-- the map's datum reads as a function. -/
def MapF (D : Du) (F : Int → Nat) : Prop := ∀ x : Int, D.atKey (.int .i64 x) (.lit (.int .i64 0)) = .lit (.int .i64 (F x : Int))
theorem OwnM.below {w w' : World} {B n : Nat} {D : Du} (h : OwnM w B n D) (hb : Below w.heap.size w w') : OwnM w' B n D := by
  obtain ⟨es, clock, h1, F, h2, h3⟩ := h
  exact ⟨es, clock, (hb.block B (Array.getElem?_eq_some_iff.1 h1).1).trans h1, F, h2, h3⟩
theorem OwnM.isMap {w : World} {B n : Nat} {D : Du} (h : OwnM w B n D) : IsMap D := by
  obtain ⟨es, clock, h1, F, h2, h3⟩ := h
  exact ⟨_, h3⟩
theorem mapF_nil : MapF (.map []) (fun _ => 0) := fun x => rfl
theorem MapF.val {D : Du} {F : Int → Nat} (h : MapF D F) {x c : Int} (hat : D.atKey (.int .i64 x) (.lit (.int .i64 0)) = .lit (.int .i64 c)) : c = (F x : Int) := by
  rw [h x] at hat
  injection hat with hat
  injection hat with _ hat
  exact hat.symm
theorem MapF.put {D : Du} {F G : Int → Nat} (h : MapF D F) (hD : IsMap D) (x : Int) (v : Nat) (hx : G x = v) (ho : ∀ y, y ≠ x → G y = F y) : MapF (D.put (.int .i64 x) (.lit (.int .i64 (v : Int)))) G := by
  intro y
  by_cases hy : y = x
  · subst hy
    rw [atKey_put_same hD (show WideAt.IsKeyLit (.int .i64 y) from trivial), hx]
  · rw [atKey_put_other (fun e => hy (by injection e)), h y, ho y hy]
def OccP (ds : List LtD) (w : World) (e : Ending) (w' : World) : Prop :=
  Below w.heap.size w w' ∧ ((¬ apartP ds ∧ e = .returned (.tuple #[.map none, .bool false])) ∨
    (apartP ds ∧ ∃ (B n : Nat) (D : Du), e = .returned (.tuple #[.map (some B), .bool true]) ∧ w.heap.size ≤ B ∧ OwnM w' B n D ∧ MapF D (usedK ds ds.length)))
structure GoodD (d : LtD) : Prop where
  nd : d.zs.Nodup
  fib : ∀ x ∈ d.zs, 0 ≤ x ∧ x < 1048576
  blk : blkP d.q0 d.q1
theorem lightP_good {ss : List ByteArray} {fs : List Q4} {d : LtD} (h : lightP ss fs d) (hn : netP ss fs) : GoodD d := by
  obtain ⟨_, hr, hb⟩ := h
  obtain ⟨h1, h2⟩ := route_nodup hr
  exact ⟨h1, fun x hx => by have := h2 x hx; have hf := hn.2.1; omega, hb⟩
set_option maxRecDepth 100000 in
set_option maxHeartbeats 8000000 in
theorem occupied_ {g n B0 : Nat} {ys : List Lt} {ds : List LtD} {w : World} (hT : Lts B0 g n ys w) (hd : ys.map Lt.d = ds) (hs : n ≤ 12) (hgood : ∀ t, t < ds.length → GoodD (dn ds t)) :
    Calls Try.prog 135 #[.slice (some ⟨g, 0, none⟩) n n] w (OccP ds w) := by
  have HT := Lib.hid hT; have HD := Lib.hid hd; have HG := Lib.hid hgood
  have HLD : Hid (ds.length = n) := Lib.hid (by rw [← hd, List.length_map]; exact hT.len)
  clear hT hd hgood
  have hmm := @run_makeMap Try.prog
  go_enter Try.func135, Try.ntmps135
  go_wp2
  go_loopw [13] (fun i wr => ∃ (k cnt : Nat) (D : Du), k ≤ n ∧ i = .int .i64 k ∧ Hid (OwnM wr w.heap.size cnt D ∧ MapF D (usedK ds k)) ∧ cnt ≤ k * 1048576 ∧ Hid (∀ i j, j < i → i < k → ¬ colP (dn ds j) (dn ds i)) ∧ Below w.heap.size w wr) (fun i _ => n - (intOf i).toNat)
  case atStart => exact ⟨0, 0, _, Nat.zero_le _, rfl, Lib.hid ⟨World.ownsMap_made _ _ _ _, mapF_nil⟩, Nat.zero_le _, Lib.hid (fun i j _ hi => absurd hi (by omega)), (Below.refl _ _).alloc (Nat.le_refl _) _⟩
  case round =>
    clear hmm
    obtain ⟨k, cnt, D, hk, rfl, HM, hcnt, HC, hb⟩ := hrel
    have HBW := Lib.hid hb
    by_cases hlt : k < n
    case neg =>
      have hkn : k = n := by omega
      have HE : Hid (apartP ds ∧ MapF D (usedK ds ds.length)) := Lib.hid ⟨fun i j hji hi => HC.out i j hji (by have := HLD.out; omega), by rw [HLD.out, ← hkn]; exact HM.out.2⟩
      clear hkn
      go_wp2
      go_ret2
      exact ⟨hb, .inr ⟨HE.out.1, w.heap.size, cnt, D, rfl, Nat.le_refl _, HM.out.1, HE.out.2⟩⟩
    case pos =>
    have hkl : k < ys.length := by have := HT.out.len; omega
    have HKD : Hid (k < ds.length) := Lib.hid (by have := HLD.out; omega)
    obtain ⟨y, hke⟩ : ∃ y, ys[k]'hkl = y := ⟨_, rfl⟩
    have HDK := Lib.hid (dn_at HD.out hkl hke)
    have hyat : LtAt w y := by rw [← hke]; exact HT.out.at_ _ (List.getElem_mem hkl)
    obtain ⟨hg, f0, f1, f2, f3, f4⟩ := (HT.out.moved hb).rd.ltc hkl
    rw [Nat.zero_add, hke] at f0 f1 f2 f3 f4
    have HGD := Lib.hid (HG.out k HKD.out)
    have HBK : Hid (bitsV y.q0 y.q1 = (bitN (dn ds k) : Int)) := Lib.hid (by rw [HDK.out]; exact bitN_eq (d := y.d) (by have := HGD.out.blk; rw [HDK.out] at this; exact this))
    have HBL := Lib.hid (bitN_lt HGD.out.blk)
    have HZ : Hid (y.zs = (dn ds k).zs) := Lib.hid (by rw [HDK.out]; rfl)
    have hblk : blkP y.q0 y.q1 := by have := HGD.out.blk; rw [HDK.out] at this; exact this
    obtain ⟨hyn, hys, hyr⟩ := hyat
    have HYN := Lib.hid hyn; have HYR := Lib.hid hyr
    have CB : Hid (∀ W, Calls Try.prog 186 #[.agg #[.int .i64 y.q0, .int .i64 y.q1]] W (RetP (.int .i64 (bitN (dn ds k) : Int)) W)) := Lib.hid (fun W => by rw [← HBK.out]; exact implBits y.q0 y.q1 W hblk)
    obtain ⟨b, hbb⟩ : ∃ b, bitN (dn ds k) = b := ⟨_, rfl⟩
    rw [hbb] at CB HBL
    have HBB := Lib.hid hbb
    obtain ⟨p0, p1, A, m, c, zs, q0, q1⟩ := y
    simp only at f0 f1 f2 f3 f4 hyn hys hyr HYN HYR HZ CB
    have HBX := Lib.hid (hb.alloc hb.size (Obj.cells #[.int .i64 p0, .int .i64 p1, .slice A m c, .int .i64 q0, .int .i64 q1] 171))
    have HBZ := Lib.hid ((Below.refl wr.heap.size wr).alloc (Nat.le_refl _) (Obj.cells #[.int .i64 p0, .int .i64 p1, .slice A m c, .int .i64 q0, .int .i64 q1] 171))
    clear hb hke hyn hyr hbb hblk
    go_wp2_with fail
    obtain ⟨X, hX⟩ : ∃ X, wr.alloc (Obj.cells #[.int .i64 p0, .int .i64 p1, .slice A m c, .int .i64 q0, .int .i64 q1] 171) = X := ⟨_, rfl⟩
    have hx2 : X.cell? ⟨wr.heap.size, 2, none⟩ = some (.slice A m c) := by rw [← hX]; simp [go_sem]
    have hzx : wr.heap.size < X.heap.size := by rw [← hX]; simp
    rw [hX] at HBX HBZ ⊢
    clear hX f0 f1 f2 f3 f4
    refine (CB.out _).mono ?_
    rintro e w3 ⟨rfl, hb3⟩
    have HB3 := Lib.hid (HBX.out.trans (hb3.mono HBX.out.size))
    have HM3 := Lib.hid (HM.out.1.below (HBZ.out.trans (hb3.mono HBZ.out.size)))
    have hx3 := (hb3.cell (p := ⟨wr.heap.size, 2, none⟩) hzx).trans hx2
    clear hb3 hx2 hzx
    go_wp2
    clear hx3
    go_loopw [24] (fun i wr => ∃ (j cn : Nat) (D : Du), j ≤ m ∧ i = .int .i64 j ∧ Hid (OwnM wr w.heap.size cn D ∧ MapF D (partK ds k j)) ∧ cn ≤ k * 1048576 + j ∧ Hid (∀ t, t < k → ∀ x ∈ zs.take j, x ∈ (dn ds t).zs → bitN (dn ds t) &&& b = 0) ∧ Below w.heap.size w wr) (fun i _ => m - (intOf i).toNat)
    case atStart => exact ⟨0, cnt, D, Nat.zero_le _, rfl, Lib.hid ⟨HM3.out, fun x => by rw [part_zero]; exact HM.out.2 x⟩, Nat.le_trans hcnt (Nat.le_add_right _ _), Lib.hid (fun t _ x hx => by simp at hx), HB3.out⟩
    case round =>
      obtain ⟨j, cn, D2, hj, rfl, HM2, hcn, HX, hb⟩ := hrel
      have HR2 := Lib.hid (HYR.out.moved hb)
      have HBJ := Lib.hid hb
      by_cases hjl : j < m
      case neg =>
        have hjm : j = m := by omega
        have HC2 : Hid (∀ i j, j < i → i < k + 1 → ¬ colP (dn ds j) (dn ds i)) := Lib.hid (fun i t hti hi => by
          by_cases h : i < k
          · exact HC.out i t hti h
          · obtain rfl : i = k := by omega
            intro hc
            obtain ⟨x, hx1, hx2⟩ := uses_iff.1 hc.1
            refine hc.2 ?_
            rw [HBB.out]
            refine HX.out t hti x ?_ hx1
            rw [List.take_of_length_le (by have := HYN.out; omega), HZ.out]
            exact hx2)
        have HMU : Hid (MapF D2 (usedK ds (k + 1))) := Lib.hid (fun x => by
          have h1 := HM2.out.2 x
          rw [hjm, ← HYN.out, HZ.out, part_all] at h1
          exact h1)
        have hcn2 : cn ≤ (k + 1) * 1048576 := by omega
        clear hjm hb
        go_wp2
        go_roundw
        case rel => exact ⟨k + 1, cn, D2, by omega, by go_num, Lib.hid ⟨HM2.out.1, HMU.out⟩, hcn2, HC2, HBJ.out⟩
        case measure => simp [intOf]; omega
      case pos =>
      have hjz : j < zs.length := by have := HYN.out; omega
      obtain ⟨ad, hA, hbl, hcell⟩ := ints_at HR2.out hjz
      subst hA
      obtain ⟨x, hx⟩ : ∃ x, zs[j]'hjz = x := ⟨_, rfl⟩
      rw [hx] at hcell
      have hjd : j < (dn ds k).zs.length := by rw [← HZ.out]; exact hjz
      have HXD : Hid ((dn ds k).zs[j]'hjd = x) := Lib.hid (by rw [← hx]; congr 1; exact HZ.out.symm)
      have hxin : x ∈ (dn ds k).zs := by rw [← HXD.out]; exact List.getElem_mem hjd
      have hxf := HGD.out.fib x hxin
      have hkey : keyOf Try.prog 3 (.int .i64 x) = some (.int .i64 x) := keyOf_int_mk Try.underlying3 (WalkArith.wf_i64 (by omega))
      have HKEY := Lib.hid hkey
      have hpn : partK ds k j x = usedK ds k x := by rw [← HXD.out]; exact part_new hjd HGD.out.nd
      have hps : partK ds k (j + 1) x = usedK ds k x ||| b := by rw [← HXD.out, ← HBB.out]; exact part_same hjd HGD.out.nd
      have hpo : ∀ y, y ≠ x → partK ds k (j + 1) y = partK ds k j y := fun y hy => part_other hjd (by rw [HXD.out]; exact hy)
      have hul : usedK ds k x < 2 ^ 24 := used_lt (fun t ht => (HG.out t (by have := HKD.out; omega)).blk)
      have hua := used_and (ds := ds) (x := x) (b := b) (k := k)
      have HPS := Lib.hid hps; have HPO := Lib.hid hpo
      obtain ⟨u, hu⟩ : ∃ u, usedK ds k x = u := ⟨_, rfl⟩
      rw [hu] at hpn hul hua HPS
      have HVAL : Hid (∀ c : Int, D2.atKey (.int .i64 x) (.lit (.int .i64 0)) = .lit (.int .i64 c) → c = (u : Int)) := Lib.hid (fun c hat => by rw [HM2.out.2.val hat, hpn])
      have hand := and_i64n u b hul HBL.out
      have hor := or_i64_ u b (by omega) (by have := HBL.out; omega)
      have hol : u ||| b < 2 ^ 24 := Nat.or_lt_two_pow hul HBL.out
      obtain ⟨v, hv⟩ : ∃ v, u &&& b = v := ⟨_, rfl⟩
      obtain ⟨o, ho⟩ : ∃ o, u ||| b = o := ⟨_, rfl⟩
      rw [hv] at hand hua; rw [ho] at hor hol HPS
      have HUA := Lib.hid hua
      have hown := HM2.out.1
      have hwo : (Lit.int .i64 (o : Int)).wf = true := WalkArith.wf_i64 (by omega)
      have HXX2 := Lib.hid hx
      have HIN := Lib.hid hxin
      clear HXD hx hjd hxin hpn hps hpo hul hua hu hv ho hkey hb
      by_cases hv0 : v = 0
      case neg =>
        have HE : Hid (¬ apartP ds) := Lib.hid (fun hap => by
          apply hv0
          refine HUA.out.2 (fun t ht hxt => ?_)
          have hnc := hap k t ht HKD.out
          refine Classical.byContradiction fun h0 => hnc ⟨uses_iff.2 ⟨x, hxt, HIN.out⟩, by rw [HBB.out]; exact h0⟩)
        have hvi : (v : Int) ≠ 0 := by omega
        have hvb : ((v : Int) != 0) = true := by simpa using hvi
        have hvc : ((v : Int) == 0) = false := by simpa using hvi
        clear hv0 hvi
        go_wp2_with (first
          | (at_lookup; refine wpList_lookup_own_int _ rfl _ _ 173 rfl 3 3 .i64 law_int Try.underlying173 Try.underlying3 (zero_int _) w.heap.size cn _ rfl hown _ _ rfl HKEY.out ?_; intro c hat hwc; obtain rfl := HVAL.out c hat; clear hat hwc)
          | go_in)
        go_ret2
        exact ⟨HBJ.out, .inl ⟨HE.out, rfl⟩⟩
      case pos =>
      subst hv0
      have HX2 : Hid (∀ t, t < k → ∀ x ∈ zs.take (j + 1), x ∈ (dn ds t).zs → bitN (dn ds t) &&& b = 0) := Lib.hid (fun t ht x' hx' hxt => by
        rw [List.take_succ_eq_append_getElem hjz, HXX2.out] at hx'
        rcases List.mem_append.1 hx' with h | h
        · exact HX.out t ht x' h hxt
        · rw [List.mem_singleton.1 h] at hxt
          exact HUA.out.1 rfl t ht hxt)
      have HPUT : Hid (MapF (D2.put (.int .i64 x) (.lit (.int .i64 (o : Int)))) (partK ds k (j + 1))) := Lib.hid (HM2.out.2.put hown.isMap x o HPS.out HPO.out)
      go_wp2_with (first
        | (at_lookup; refine wpList_lookup_own_int _ rfl _ _ 173 rfl 3 3 .i64 law_int Try.underlying173 Try.underlying3 (zero_int _) w.heap.size cn _ rfl hown _ _ rfl HKEY.out ?_; intro c hat hwc; obtain rfl := HVAL.out c hat; clear hat hwc)
        | (at_mapUpdate; refine wpList_mapUpdate_own _ rfl _ _ _ 173 rfl 3 3 law_int Try.underlying173 _ w.heap.size cn _ rfl hown (by unfold maxLen; omega) _ _ _ rfl rfl HKEY.out _ [] (plainElem_int Try.underlying3 hwo) ?_; intro w1 hown1 hgrow1)
        | go_in)
      have HB1 := Lib.hid (HBJ.out.grown hgrow1 HBJ.out.size (fun q hq => by cases hq; exact Nat.le_refl _))
      have HOW := Lib.hid hown1
      clear hown1 hgrow1 hown
      go_roundw
      case rel => exact ⟨j + 1, cn + 1, _, by omega, by go_num, Lib.hid ⟨HOW.out, HPUT.out⟩, by omega, HX2, HB1.out⟩
      case measure => simp [intOf]; omega
end Go.Proofs.Ytdaopbdjbpopiaa
