/- DrawAirWay; no condition. -/
import Derived.Test.YtomgdlnpajfjhaaDwn
import Derived.Test.YtomgdlnpajfjhaaDrc
import Derived.Test.YtomgdlnpajfjhaaDet
namespace Go.Proofs.Ytomgdlnpajfjhaa
open Go.RowKit Go.ChangeShapes Go.WideShapes Go.ChangeAt
set_option linter.unusedVariables false
set_option linter.unusedSimpArgs false
set_option maxRecDepth 8000

theorem results_D3 {fn : Func} {t u q : Tmp} (h : fn.results = #[.tmp t, .cell q 27, .tmp u]) (tmps : Array Value) (w : World) (g x y : Nat) (a b : Value)
    (ht : tmps.getD t undef = a) (hu : tmps.getD u undef = b) (hq : tmps.getD q undef = .pointer (some ⟨g, 0, none⟩)) (hg : Blk w g #[.float .f32 x, .float .f32 y] 27) :
    (results fn tmps).run Try.prog w = .ok (.tuple #[a, .agg #[.float .f32 x, .float .f32 y], b]) w := by
  have hq' : tmps[q]?.getD undef = .pointer (some ⟨g, 0, none⟩) := by simpa using hq
  have ht' : tmps[t]?.getD undef = a := by simpa using ht
  have hu' : tmps[u]?.getD undef = b := by simpa using hu
  have hr := run_loadVar_row (P := Try.prog) w g 27 27 #[.float .f32 x, .float .f32 y] (0, 0) _ hg Try.underlying27 rfl (by kernel_rfl)
  simp [results, h, hq', ht', hu', asAddr, hr]
theorem grow2 (w : World) (g : Nat) (a b : Value) : w.grownBy ((w.setCell ⟨g, 0, none⟩ a).setCell ⟨g, 1, none⟩ b) (some g) := grown_trans (dgrown_set _ _ _ _) (dgrown_set _ _ _ _)
theorem ne_some {v : Value} {R : Nat} (h : ∀ k, v.ownBlock = some k → k ≠ R) : v.ownBlock = none ∨ v.ownBlock ≠ some R := by
  cases hv : v.ownBlock with
  | none => exact .inl rfl
  | some k => exact .inr (fun e => h k hv (Option.some.inj e))
theorem ow_form {base : Nat} {w : World} {v : Value} {ys : List Int} (h : Ow .i64 3 base w v ys) : ∃ aa cc, v = .slice aa ys.length cc := by
  obtain ⟨a, cap, rfl, -⟩ := h.rd
  exact ⟨a, cap, rfl⟩
def DwR (w : World) (e : Ending) (w' : World) : Prop := ∃ v zs p q u M GR GI, e = .returned (.tuple #[v, .agg #[.float .f32 p, .float .f32 q], u]) ∧ Rd .i64 w' v zs ∧ (2 ≤ zs.length ∧ zs.length ≤ 80 ∧ zs.length % 2 = 0) ∧ (∀ z ∈ zs, 0 ≤ z ∧ z ≤ 1) ∧ GnD p q GR GI ∧ Rg 2 smC w' u M ∧ M.length = zs.length / 2 + 26 ∧ NsD M ∧ Below w.heap.size w w'
structure RgD (w : World) (ov : Value) (uv : Value) (ys : List Int) (M : List (Nat × Nat)) (pp : Nat) (qq : Nat) (Y : Nat) (R : Nat) (d : Nat → Bool) (W : World) (v0 v1 v2 v3 v4 v5 : Value)  : Prop where
  bel : Below w.heap.size w W
  ro : Rd .i64 W ov ys
  ru : Rg 2 smC W uv M
  kY : Blk W Y #[.float .f32 pp, .float .f32 qq] 27
  k0 : d 4 = false → Blk W R #[.float .f32 0, .float .f32 0] 27
  k1 : d 4 = true → Blk W R #[.float .f32 pp, .float .f32 qq] 27
  f0 : d 0 = true → v0 = ov
  f1 : d 1 = true → v1 = .agg #[.float .f32 pp, .float .f32 qq]
  f2 : d 2 = true → v2 = uv
  f3 : d 3 = true → v3 = ov
  f5 : d 5 = true → v5 = uv
def RgDS (w : World) (ov : Value) (uv : Value) (ys : List Int) (M : List (Nat × Nat)) (pp : Nat) (qq : Nat) (Y : Nat) (R : Nat) (d : Nat → Bool) (q : List Value) (W : World) : Prop := ∃ v0 v1 v2 v3 v4 v5 , q = [v0, v1, v2, v3, v4, v5] ∧ RgD w ov uv ys M pp qq Y R d W v0 v1 v2 v3 v4 v5 
theorem RgD.below {w : World} {ov : Value} {uv : Value} {ys : List Int} {M : List (Nat × Nat)} {pp : Nat} {qq : Nat} {Y : Nat} {R : Nat} {d : Nat → Bool} {W W' : World} {v0 v1 v2 v3 v4 v5 : Value}  (h : RgD w ov uv ys M pp qq Y R d W v0 v1 v2 v3 v4 v5 ) (hb : Below W.heap.size W W') : RgD w ov uv ys M pp qq Y R d W' v0 v1 v2 v3 v4 v5  :=
  { h with
    bel := belowCall h.bel hb h.bel.size
    ro := h.ro.below hb
    ru := h.ru.below hb
    kY := h.kY.below hb h.kY.lt
    k0 := fun e0 => (h.k0 e0).below hb (h.k0 e0).lt
    k1 := fun e0 => (h.k1 e0).below hb (h.k1 e0).lt
  }
set_option maxHeartbeats 12800000 in
theorem drawAirWay_c (v : Value) (zs : List Int) (w : World) (h : Rd .u8 w v zs) (hok : ∀ z ∈ zs, 0 ≤ z ∧ z ≤ 255) (hlen : zs.length ≤ 2097152) : Calls Try.prog 6 #[v] w (DwR w) := by
  have hsf := storeF
  obtain ⟨R, hR⟩ : ∃ R, w.heap.size = R := ⟨_, rfl⟩
  have HRR : Hid (w.heap.size = R) := hR
  obtain ⟨W0, hW0⟩ : ∃ W, w.alloc (Obj.cells #[.float .f32 0, .float .f32 0] 27) = W := ⟨_, rfl⟩
  have HW0 : Hid (w.alloc (Obj.cells #[.float .f32 0, .float .f32 0] 27) = W0) := hW0
  have HB0 : Hid (Below w.heap.size w W0) := by rw [← hW0]; exact (Below.refl _ _).alloc (Nat.le_refl _) _
  have HK0 : Hid (Blk W0 R #[.float .f32 0, .float .f32 0] 27) := by rw [← hW0, ← hR]; exact Blk.new _ _ _
  have HR0 : Hid (Rd .u8 W0 v zs) := h.below HB0.out
  have HOK : Hid ((∀ z ∈ zs, 0 ≤ z ∧ z ≤ 255) ∧ zs.length ≤ 2097152) := ⟨hok, hlen⟩
  clear hW0 hR h hok hlen
  go_enter Try.func6, Try.ntmps6
  go_wp2_with (fail)
  rw [HW0.out]
  rw [HRR.out]
  refine (new_c v zs W0 HR0.out HOK.out.1 HOK.out.2).mono ?_
  rintro e w1 ⟨g, rfl, d1, hg, b1⟩
  have HB : Hid (Below w.heap.size w w1 ∧ w.heap.size ≤ g) := ⟨belowCall HB0.out b1 HB0.out.size, Nat.le_trans HB0.out.size hg⟩
  have HK1 : Hid (Blk w1 R #[.float .f32 0, .float .f32 0] 27 ∧ R ≠ g) := ⟨HK0.out.below b1 HK0.out.lt, by have := HK0.out.lt; omega⟩
  have HD : Hid (Dc w1 w1 g v zs) := Dc.start d1
  clear d1 hg b1 HB0 HK0 HR0 HW0
  go_wp2_with (fail)
  refine (below_c g v zs _ _ HD.out.dr (by omega)).mono ?_
  rintro e w2 ⟨x, rfl, x0, x1, -, d1, g1⟩
  have x2 := x1 (by omega)
  have HD2 : Hid (Dc w1 w2 g v zs) := HD.out.draw d1 g1
  clear d1 g1 x1 HD
  obtain ⟨n, hn⟩ : ∃ n : Nat, 2 + 2 * x = (n : Int) := ⟨(2 + 2 * x).toNat, by omega⟩
  have HNN : Hid (2 ≤ n ∧ n ≤ 80 ∧ n % 2 = 0) := by show _ ∧ _; omega
  go_wp2_with (fail)
  refine (drawBits_c g v zs n _ HD2.out.dr (by have := HNN.out; omega)).mono ?_
  rintro e w3 ⟨o', ys, rfl, o3, l3, hy3, d3⟩
  have HO3 : Hid (Ow .i64 3 w1.heap.size w3 o' ys) := o3.mono HD2.out.gr.size
  have HD3 : Hid (Dc w1 w3 g v zs) := HD2.out.draw d3.dr d3.gr
  have HYL : Hid (ys.length = n ∧ ∀ y ∈ ys, 0 ≤ y ∧ y ≤ 1) := ⟨l3, hy3⟩
  clear o3 l3 hy3 d3 HD2 hn x0 x2
  go_wp2_with (fail)
  refine (below_c g v zs _ _ HD3.out.dr (by omega)).mono ?_
  rintro e w4 ⟨a, rfl, a0, a1, -, d1, g1⟩
  have a2 := a1 (by omega)
  have HD4 : Hid (Dc w1 w4 g v zs) := HD3.out.draw d1 g1
  have HO4 : Hid (Ow .i64 3 w1.heap.size w4 o' ys) := HO3.out.drawn g1 HD3.out.lt
  clear d1 g1 a1 HD3 HO3
  go_wp2_with (fail)
  refine (below_c g v zs _ _ HD4.out.dr (by omega)).mono ?_
  rintro e w5 ⟨b, rfl, b0, b1, -, d1, g1⟩
  have b2 := b1 (by omega)
  have HD5 : Hid (Dc w1 w5 g v zs) := HD4.out.draw d1 g1
  have HO5 : Hid (Ow .i64 3 w1.heap.size w5 o' ys) := HO4.out.drawn g1 HD4.out.lt
  clear d1 g1 b1 HD4 HO4
  obtain ⟨p1, G1, hmul, hG1, hG1a, hG1b⟩ := mulS (P := Try.prog) a b a0 a2 b0 b2
  have HG1 : Hid (Dy .f32 6 p1 G1 ∧ 64 ≤ G1.natAbs ∧ G1.natAbs ≤ 320) := ⟨hG1, hG1a, hG1b⟩
  clear hG1 hG1a hG1b
  go_wp2_with (fail)
  refine (below_c g v zs _ _ HD5.out.dr (by omega)).mono ?_
  rintro e w6 ⟨c, rfl, c0, c1, -, d1, g1⟩
  have c2 := c1 (by omega)
  have HD6 : Hid (Dc w1 w6 g v zs) := HD5.out.draw d1 g1
  have HO6 : Hid (Ow .i64 3 w1.heap.size w6 o' ys) := HO5.out.drawn g1 HD5.out.lt
  clear d1 g1 c1 HD5 HO5
  obtain ⟨p2, G2, hquo, hG2, hG2a⟩ := quoS (P := Try.prog) c c0 c2
  have HG2 : Hid (GnD p1 p2 G1 G2 ∧ GnD p2 p1 G2 G1) := GnD.of HG1.out.1 hG2 HG1.out.2.1 HG1.out.2.2 hG2a
  clear hG2 hG2a HG1
  obtain ⟨Y, hY⟩ : ∃ Y, w6.heap.size = Y := ⟨_, rfl⟩
  have HYY : Hid (w6.heap.size = Y) := hY
  obtain ⟨W7, hW7⟩ : ∃ W, w6.alloc (Obj.cells #[.float .f32 p1, .float .f32 p2] 27) = W := ⟨_, rfl⟩
  have HW7 : Hid (w6.alloc (Obj.cells #[.float .f32 p1, .float .f32 p2] 27) = W7) := hW7
  have ba : Below w6.heap.size w6 W7 := by rw [← hW7]; exact (Below.refl _ _).alloc (Nat.le_refl _) _
  have HD7 : Hid (Dc w1 W7 g v zs) := HD6.out.below ba
  have HO7 : Hid (Ow .i64 3 w1.heap.size W7 o' ys) := HO6.out.below ba
  have HK7 : Hid (Blk W7 Y #[.float .f32 p1, .float .f32 p2] 27) := by rw [← hW7, ← hY]; exact Blk.new _ _ _
  have HYW : Hid (w1.heap.size ≤ Y ∧ g < Y ∧ R < w1.heap.size) := ⟨by rw [← hY]; exact HD6.out.gr.size, by rw [← hY]; exact HD6.out.dr.lt, HK1.out.1.lt⟩
  clear ba hW7 hY HD6 HO6
  go_wp2_with (fail)
  rw [HW7.out, HYY.out]
  clear hmul hquo HW7 HYY
  refine (once_c g v zs _ _ HD7.out.dr (by omega)).mono ?_
  rintro e w8 ⟨t, rfl, d1, g1⟩
  have HD8 : Hid (Dc w1 w8 g v zs) := HD7.out.draw d1 g1
  have HO8 : Hid (Ow .i64 3 w1.heap.size w8 o' ys) := HO7.out.drawn g1 HD7.out.lt
  have hk8 : Blk w8 Y #[.float .f32 p1, .float .f32 p2] 27 := by
    rw [Blk, g1.block Y HK7.out.lt (by have := HYW.out.2.1; simp; omega)]; exact HK7.out
  have HK8 : Hid (Blk w8 Y #[.float .f32 p1, .float .f32 p2] 27) := hk8
  clear d1 g1 hk8 HD7 HO7 HK7
  cases t
  case false =>
    obtain ⟨p, hp⟩ : ∃ p, p1 = p := ⟨_, rfl⟩
    obtain ⟨q, hq⟩ : ∃ q, p2 = q := ⟨_, rfl⟩
    have HGD : Hid (GnD p q G1 G2) := by rw [← hp, ← hq]; exact HG2.out.1
    have HKY : Hid (Blk w8 Y #[.float .f32 p, .float .f32 q] 27) := by rw [← hp, ← hq]; exact HK8.out
    clear HG2 HK8 hp hq
    obtain ⟨G, hG⟩ : ∃ G, G1 = G := ⟨_, rfl⟩
    obtain ⟨K, hK⟩ : ∃ K, G2 = K := ⟨_, rfl⟩
    rw [hG, hK] at HGD
    clear hG hK
    obtain ⟨wz, hwz⟩ : ∃ W, w8 = W := ⟨_, rfl⟩
    subst hwz
    have HDz : Hid (Dc w1 w8 g v zs) := HD8.out
    have HOz : Hid (Ow .i64 3 w1.heap.size w8 o' ys) := HO8.out
    clear HD8 HO8
    obtain ⟨aa, cc, ho'⟩ := ow_form HOz.out
    subst ho'
    obtain ⟨m, hm⟩ : ∃ m, ys.length / 2 = m := ⟨_, rfl⟩
    have HMM : Hid (ys.length / 2 = m) := hm
    have hyl : ys.length = n := HYL.out.1
    have hn2 := HNN.out
    have hdv : ((ys.length : Int)).tdiv 2 = (m : Int) := by rw [Int.tdiv_eq_ediv_of_nonneg (by omega)]; omega
    have hdv' : (ys.length : Int) / 2 = (m : Int) := by omega
    have hm40 : m ≤ 40 := by omega
    obtain ⟨L, hL⟩ : ∃ L, ys.length = L := ⟨_, rfl⟩
    have HLL : Hid (ys.length = L) := hL
    have hL80 : L ≤ 80 := by omega
    rw [hL] at hdv hdv' ⊢
    clear hm hyl hn2 hL
    obtain ⟨P, hP⟩ : ∃ P, w8.heap.size = P := ⟨_, rfl⟩
    have HP : Hid (w8.heap.size = P) := hP
    obtain ⟨WE, hWE⟩ : ∃ W, w8.alloc (Obj.cells #[] 27) = W := ⟨_, rfl⟩
    have HWE : Hid (w8.alloc (Obj.cells #[] 27) = WE) := hWE
    have HDE : Hid (Dc w8 WE g v zs) := by rw [← hWE]; exact (Dc.start HDz.out.dr).below ((Below.refl _ _).alloc (Nat.le_refl _) _)
    have HOE : Hid (Og 2 smC 27 P WE (.slice (some ⟨P, 0, none⟩) 0 0) []) := by rw [← hWE, ← hP]; exact World.ownsRow_lit w8 #[] 0 (Nat.le_refl _) (by simp) (by simp)
    have HNE : Hid (([] : List (Nat × Nat)).length = 0 ∧ NsD []) := ⟨rfl, fun p hp => by cases hp⟩
    obtain ⟨u0, hu0⟩ : ∃ u, Value.slice (some ⟨P, 0, none⟩) 0 0 = u := ⟨_, rfl⟩
    rw [hu0] at HOE
    have HU0 : Hid (Value.slice (some ⟨P, 0, none⟩) 0 0 = u0) := hu0
    clear hWE hP hu0
    go_wp2
    rw [HWE.out, HP.out, HU0.out]
    clear HWE HU0
    go_loopw [8, 9] (fun u i wr => ∃ (j : Nat) (M : List (Nat × Nat)) (u' : Value), i = .int .i64 j ∧ u' = u ∧ j ≤ m + 26 ∧ Hid (M.length = j ∧ NsD M) ∧ Hid (Og 2 smC 27 P wr u' M ∧ Dc w8 wr g v zs)) (fun _ i _ => m + 26 - (intOf i).toNat)
    case atStart => exact ⟨0, [], _, rfl, rfl, Nat.zero_le _, HNE.out, HOE.out, HDE.out⟩
    case round =>
      obtain ⟨j, M, u, rfl, hu', hj, hM, hH⟩ := hrel
      subst hu'
      clear HNE HOE HDE
      by_cases hlt : j < m + 26
      case pos =>
        have hltI : (j : Int) < (m : Int) + 26 := by omega
        have HH : Hid (Og 2 smC 27 P wr u M ∧ Dc w8 wr g v zs) := hH
        clear hH
        go_wp2_with (fail)
        refine (below_c g v zs 17 _ HH.out.2.dr (by omega)).mono ?_
        rintro e wa ⟨x, rfl, x0, x1, -, d1, g1⟩
        have x2 := x1 (by omega)
        have HHa : Hid (Og 2 smC 27 P wa u M ∧ Dc w8 wa g v zs) := ⟨HH.out.1.draw g1 (by have := HH.out.2.lt; have := HP.out; omega), HH.out.2.draw d1 g1⟩
        clear d1 g1 x1 HH
        obtain ⟨r1, B1, hq1, hB1, hB1a⟩ := quoN (P := Try.prog) x x0 x2
        go_wp2_with (fail)
        refine (below_c g v zs 17 _ HHa.out.2.dr (by omega)).mono ?_
        rintro e wb ⟨y, rfl, y0, y1, -, d1, g1⟩
        have y2 := y1 (by omega)
        have HHb : Hid (Og 2 smC 27 P wb u M ∧ Dc w8 wb g v zs) := ⟨HHa.out.1.draw g1 (by have := HHa.out.2.lt; have := HP.out; omega), HHa.out.2.draw d1 g1⟩
        clear d1 g1 y1 HHa
        obtain ⟨r2, B2, hq2, hB2, hB2a⟩ := quoN (P := Try.prog) y y0 y2
        obtain ⟨W5, hW5⟩ : ∃ W, wb.alloc (Obj.cells #[.float .f32 r1, .float .f32 r2] 27) = W := ⟨_, rfl⟩
        have HW5 : Hid (wb.alloc (Obj.cells #[.float .f32 r1, .float .f32 r2] 27) = W5) := hW5
        have HS5 : Hid (P ≤ W5.heap.size) := by show _ ≤ _; rw [← hW5, ← HP.out]; have := HHb.out.2.gr.size; simp; omega
        have HH5 : Hid (Og 2 smC 27 P W5 u M ∧ Dc w8 W5 g v zs) := by
          have ba : Below wb.heap.size wb W5 := by rw [← hW5]; exact (Below.refl _ _).alloc (Nat.le_refl _) _
          exact ⟨HHb.out.1.below ba, HHb.out.2.below ba⟩
        have HK5 : Hid (Blk W5 wb.heap.size #[.float .f32 r1, .float .f32 r2] 27) := by rw [← hW5]; exact Blk.new _ _ _
        have HLN : Hid (M.length ≤ 1000) := by show _ ≤ _; have := hM.out.1; omega
        have HMN : Hid ((M ++ [(r1, r2)]).length = j + 1 ∧ NsD (M ++ [(r1, r2)])) := ⟨by have := hM.out.1; simp; omega, hM.out.2.app hB1 hB2 hB1a hB2a⟩
        clear hW5 HHb hB1 hB2 hB1a hB2a hM
        go_wp2_with (at_builtin; rw [HW5.out]; refine appSm rfl _ _ rfl P _ M rfl HH5.out.1 wb.heap.size r1 r2 rfl HK5.out (by have := HLN.out; omega) HS5.out ?_)
        intro u5 w6 o6 g6
        have HO6 : Hid (Og 2 smC 27 P w6 u5 (M ++ [(r1, r2)])) := o6
        have HD6 : Hid (Dc w8 w6 g v zs) := HH5.out.2.app (row := u.ownBlock) (fun k hk => by have := (HH5.out.1.lt k hk).1; have := HP.out; omega) g6
        clear o6 g6 HH5 HK5 HLN HS5 hq1 hq2
        go_wp2
        go_roundw
        case rel => exact ⟨j + 1, _, _, by go_num, rfl, by omega, HMN.out, HO6.out, HD6.out⟩
        case measure => simp [intOf]; omega
      case neg =>
      obtain rfl : j = m + 26 := by omega
      obtain ⟨ua, uc, huv⟩ := hH.out.1.form
      subst huv
      have HKr : Hid (Blk wr Y #[.float .f32 p, .float .f32 q] 27) := by
        have h0 := HKY.out
        show Blk _ _ _ _
        rw [Blk, hH.out.2.gr.block Y h0.lt (by have := HYW.out.2.1; simp; omega)]; exact h0
      have HRr : Hid (Blk wr R #[.float .f32 0, .float .f32 0] 27) := by
        have h0 := HK1.out.1
        have h1 := HDz.out.gr.block R h0.lt (by have := HK1.out.2; simpa using this)
        have h2 := hH.out.2.gr.block R (Nat.lt_of_lt_of_le h0.lt HDz.out.gr.size) (by have := HK1.out.2; simpa using this)
        show Blk _ _ _ _
        rw [Blk, h2, h1]; exact h0
      have HRN : Hid (Rg 2 smC wr (.slice ua M.length uc) M ∧ ∀ k, (Value.slice ua M.length uc).ownBlock = some k → k ≠ R) := ⟨hH.out.1.rd smC_len, fun k hk => by have := (hH.out.1.lt k hk).1; have h3 := HP.out; have h4 := HDz.out.gr.size; have := HYW.out.2.2; omega⟩
      have HRO : Hid (Rd .i64 wr (.slice aa L cc) ys ∧ ∀ k, (Value.slice aa L cc).ownBlock = some k → k ≠ R) := by
        have h0 := HOz.out.drawn hH.out.2.gr HDz.out.lt
        rw [HLL.out] at h0
        exact ⟨h0.rd, fun k hk => by have := (World.ownsRow.lt h0 k hk).1; have := HYW.out.2.2; omega⟩
      have HBr : Hid (Below w.heap.size w wr) := (HB.out.1.trans (grown_below HDz.out.gr HB.out.1.size (fun k e => by cases e; exact HB.out.2))).trans (grown_below hH.out.2.gr (HB.out.1.trans (grown_below HDz.out.gr HB.out.1.size (fun k e => by cases e; exact HB.out.2))).size (fun k e => by cases e; exact HB.out.2))
      have HYR : Hid (Y ≠ R) := by have := HYW.out; show Y ≠ R; omega
      have HML : Hid (M.length = ys.length / 2 + 26 ∧ NsD M) := ⟨by rw [HMM.out]; exact hM.out.1, hM.out.2⟩
      clear hH hM hlt hj
      have HRW : Hid (w.heap.size ≤ R) := by show _ ≤ _; have := HRR.out; omega
      go_wp2
      refine region_vals [undef, undef, undef, undef, undef, undef] (RgDS (w) (.slice aa L cc) (.slice ua M.length uc) (ys) (M) (p) (q) (Y) (R)) (by kernel_rfl) (by kernel_rfl) ?_ ⟨?_, ?_, ?_, ?_, ?_, ?_, trivial⟩ ?_
      · refine ⟨_, _, _, _, _, _, rfl, ⟨(HBr.out.drew), (HRO.out.1), (HRN.out.1), (HKr.out.drew), (fun _ => HRr.out.drew), ?_, ?_, ?_, ?_, ?_, ?_⟩⟩ <;> simp
      · rintro d vs W ⟨v0, v1, v2, v3, v4, v5, rfl, H⟩ hn hd
        simp only [putAll, Act.put, List.setIfInBounds_toArray, List.set_cons_succ, List.set_cons_zero]
        have HH1 : Hid (RgD (w) (.slice aa L cc) (.slice ua M.length uc) (ys) (M) (p) (q) (Y) (R) d W v0 v1 v2 v3 v4 v5 ) := H
        clear H
        have HHN : Hid (d 0 = false) := hn
        clear hd hn
        go_wp2
        have H0 := HH1.out
        have H := HH1.out
        have hn := HHN.out
        refine ⟨rfl, [.slice aa L cc, v1, v2, v3, v4, v5], ?_, .slice aa L cc, v1, v2, v3, v4, v5, rfl, ⟨H.bel, H.ro, H.ru, H.kY, (by have h := H.k0; simpa [doneSet] using h), (by have h := H.k1; simpa [doneSet] using h), (fun _ => rfl), (by have h := H.f1; simpa [doneSet] using h), (by have h := H.f2; simpa [doneSet] using h), (by have h := H.f3; simpa [doneSet] using h), (by have h := H.f5; simpa [doneSet] using h)⟩⟩
        simp only [putAll, Act.put, List.setIfInBounds_toArray, List.set_cons_succ, List.set_cons_zero]
        all_goals rfl
      · rintro d vs W ⟨v0, v1, v2, v3, v4, v5, rfl, H⟩ hn hd
        simp only [putAll, Act.put, List.setIfInBounds_toArray, List.set_cons_succ, List.set_cons_zero]
        have K5 := H.kY
        have z0 := K5.cell 0
        have z1 := K5.cell 1
        simp at z0 z1
        clear K5
        have HH1 : Hid (RgD (w) (.slice aa L cc) (.slice ua M.length uc) (ys) (M) (p) (q) (Y) (R) d W v0 v1 v2 v3 v4 v5 ) := H
        clear H
        have HHN : Hid (d 1 = false) := hn
        clear hd hn
        go_wp2
        have H0 := HH1.out
        have H := HH1.out
        have hn := HHN.out
        refine ⟨rfl, [v0, .agg #[.float .f32 p, .float .f32 q], v2, v3, v4, v5], ?_, v0, .agg #[.float .f32 p, .float .f32 q], v2, v3, v4, v5, rfl, ⟨H.bel, H.ro, H.ru, H.kY, (by have h := H.k0; simpa [doneSet] using h), (by have h := H.k1; simpa [doneSet] using h), (by have h := H.f0; simpa [doneSet] using h), (fun _ => rfl), (by have h := H.f2; simpa [doneSet] using h), (by have h := H.f3; simpa [doneSet] using h), (by have h := H.f5; simpa [doneSet] using h)⟩⟩
        simp only [putAll, Act.put, List.setIfInBounds_toArray, List.set_cons_succ, List.set_cons_zero]
        all_goals rfl
      · rintro d vs W ⟨v0, v1, v2, v3, v4, v5, rfl, H⟩ hn hd
        simp only [putAll, Act.put, List.setIfInBounds_toArray, List.set_cons_succ, List.set_cons_zero]
        have HH1 : Hid (RgD (w) (.slice aa L cc) (.slice ua M.length uc) (ys) (M) (p) (q) (Y) (R) d W v0 v1 v2 v3 v4 v5 ) := H
        clear H
        have HHN : Hid (d 2 = false) := hn
        clear hd hn
        go_wp2
        have H0 := HH1.out
        have H := HH1.out
        have hn := HHN.out
        refine ⟨rfl, [v0, v1, .slice ua M.length uc, v3, v4, v5], ?_, v0, v1, .slice ua M.length uc, v3, v4, v5, rfl, ⟨H.bel, H.ro, H.ru, H.kY, (by have h := H.k0; simpa [doneSet] using h), (by have h := H.k1; simpa [doneSet] using h), (by have h := H.f0; simpa [doneSet] using h), (by have h := H.f1; simpa [doneSet] using h), (fun _ => rfl), (by have h := H.f3; simpa [doneSet] using h), (by have h := H.f5; simpa [doneSet] using h)⟩⟩
        simp only [putAll, Act.put, List.setIfInBounds_toArray, List.set_cons_succ, List.set_cons_zero]
        all_goals rfl
      · rintro d vs W ⟨v0, v1, v2, v3, v4, v5, rfl, H⟩ hn hd
        simp only [putAll, Act.put, List.setIfInBounds_toArray, List.set_cons_succ, List.set_cons_zero]
        have h0 : d 0 = true := hd { on := 0, ground := .data } (by simp) rfl
        obtain rfl := H.f0 h0
        have HH1 : Hid (RgD (w) (.slice aa L cc) (.slice ua M.length uc) (ys) (M) (p) (q) (Y) (R) d W ((.slice aa L cc)) v1 v2 v3 v4 v5 ) := H
        clear H
        have HHN : Hid (d 3 = false) := hn
        have HHD : Hid (d 0 = true) := h0
        clear hd hn h0
        go_wp2
        have H0 := HH1.out
        have H := HH1.out
        have hn := HHN.out
        have h0 := HHD.out
        refine ⟨rfl, [(.slice aa L cc), v1, v2, .slice aa L cc, v4, v5], ?_, (.slice aa L cc), v1, v2, .slice aa L cc, v4, v5, rfl, ⟨H.bel, H.ro, H.ru, H.kY, (by have h := H.k0; simpa [doneSet] using h), (by have h := H.k1; simpa [doneSet] using h), (fun _ => rfl), (by have h := H.f1; simpa [doneSet] using h), (by have h := H.f2; simpa [doneSet] using h), (fun _ => rfl), (by have h := H.f5; simpa [doneSet] using h)⟩⟩
        simp only [putAll, Act.put, List.setIfInBounds_toArray, List.set_cons_succ, List.set_cons_zero]
        all_goals rfl
      · rintro d vs W ⟨v0, v1, v2, v3, v4, v5, rfl, H⟩ hn hd
        simp only [putAll, Act.put, List.setIfInBounds_toArray, List.set_cons_succ, List.set_cons_zero]
        have h1 : d 1 = true := hd { on := 1, ground := .data } (by simp) rfl
        have K5 := H.k0 hn
        have HK5 : Hid (Blk W R #[.float .f32 0, .float .f32 0] 27) := K5
        have z0 := K5.cell 0
        have z1 := K5.cell 1
        have f0 := K5.frozen 0
        have f1 := K5.frozen 1
        simp at z0 z1
        clear K5
        obtain rfl := H.f1 h1
        have HH1 : Hid (RgD (w) (.slice aa L cc) (.slice ua M.length uc) (ys) (M) (p) (q) (Y) (R) d W v0 (.agg #[.float .f32 p, .float .f32 q]) v2 v3 v4 v5 ) := H
        clear H
        have HHN : Hid (d 4 = false) := hn
        have HHD : Hid (d 1 = true) := h1
        clear hd hn h1
        go_wp2
        have H0 := HH1.out
        have H := HH1.out
        have hn := HHN.out
        have h1 := HHD.out
        refine ⟨rfl, [v0, .agg #[.float .f32 p, .float .f32 q], v2, v3, undef, v5], ?_, v0, .agg #[.float .f32 p, .float .f32 q], v2, v3, undef, v5, rfl, ⟨(below_set2 H0.bel _ HRW.out _ _), (H0.ro.grownE (grow2 _ _ _ _) (.inr (ne_some HRO.out.2))), (H0.ru.grown (grow2 _ _ _ _) (.inr (ne_some HRN.out.2))), ((H0.kY.other _ _ HYR.out).other _ _ HYR.out), (fun e => absurd e (by simp [doneSet])), (fun _ => Blk.set2 HK5.out _ _), (by have h := H.f0; simpa [doneSet] using h), (fun _ => rfl), (by have h := H.f2; simpa [doneSet] using h), (by have h := H.f3; simpa [doneSet] using h), (by have h := H.f5; simpa [doneSet] using h)⟩⟩
        simp only [putAll, Act.put, List.setIfInBounds_toArray, List.set_cons_succ, List.set_cons_zero]
        all_goals rfl
      · rintro d vs W ⟨v0, v1, v2, v3, v4, v5, rfl, H⟩ hn hd
        simp only [putAll, Act.put, List.setIfInBounds_toArray, List.set_cons_succ, List.set_cons_zero]
        have h2 : d 2 = true := hd { on := 2, ground := .data } (by simp) rfl
        obtain rfl := H.f2 h2
        have HH1 : Hid (RgD (w) (.slice aa L cc) (.slice ua M.length uc) (ys) (M) (p) (q) (Y) (R) d W v0 v1 ((.slice ua M.length uc)) v3 v4 v5 ) := H
        clear H
        have HHN : Hid (d 5 = false) := hn
        have HHD : Hid (d 2 = true) := h2
        clear hd hn h2
        go_wp2
        have H0 := HH1.out
        have H := HH1.out
        have hn := HHN.out
        have h2 := HHD.out
        refine ⟨rfl, [v0, v1, (.slice ua M.length uc), v3, v4, .slice ua M.length uc], ?_, v0, v1, (.slice ua M.length uc), v3, v4, .slice ua M.length uc, rfl, ⟨H.bel, H.ro, H.ru, H.kY, (by have h := H.k0; simpa [doneSet] using h), (by have h := H.k1; simpa [doneSet] using h), (by have h := H.f0; simpa [doneSet] using h), (by have h := H.f1; simpa [doneSet] using h), (fun _ => rfl), (by have h := H.f3; simpa [doneSet] using h), (fun _ => rfl)⟩⟩
        simp only [putAll, Act.put, List.setIfInBounds_toArray, List.set_cons_succ, List.set_cons_zero]
        all_goals rfl
      rintro d' vs W ⟨v0, v1, v2, v3, v4, v5, rfl, H⟩ hn
      obtain rfl := H.f0 (hn 0 (by decide))
      obtain rfl := H.f1 (hn 1 (by decide))
      obtain rfl := H.f2 (hn 2 (by decide))
      obtain rfl := H.f3 (hn 3 (by decide))
      obtain rfl := H.f5 (hn 5 (by decide))
      have HKF := H.k1 (hn 4 (by decide))
      simp only [putAll, Act.put, List.setIfInBounds_toArray, List.set_cons_succ, List.set_cons_zero]
      go_wp2
      exact bodyPost_ret (results_D3 rfl _ _ R p q (.slice aa L cc) (.slice ua M.length uc) rfl rfl rfl HKF) rfl ⟨.slice aa L cc, ys, p, q, .slice ua M.length uc, M, _, _, rfl, H.ro, by have := HNN.out; have := HYL.out.1; omega, HYL.out.2, HGD.out, H.ru, HML.out.1, HML.out.2, H.bel⟩

  case true =>
    have k0 := HK8.out.cell 0
    have k1 := HK8.out.cell 1
    have f0 := HK8.out.frozen 0
    have f1 := HK8.out.frozen 1
    simp at k0 k1
    obtain ⟨W9, hW9⟩ : ∃ W, (w8.setCell ⟨Y, 0, none⟩ (.float .f32 p2)).setCell ⟨Y, 1, none⟩ (.float .f32 p1) = W := ⟨_, rfl⟩
    have HW9 : Hid ((w8.setCell ⟨Y, 0, none⟩ (.float .f32 p2)).setCell ⟨Y, 1, none⟩ (.float .f32 p1) = W9) := hW9
    have HP8 : Hid (w8.heap.size = W9.heap.size) := by show _ = _; rw [← hW9]; simp
    have gg : w8.grownBy W9 (some Y) := by rw [← hW9]; exact grown_trans (dgrown_set _ _ _ _) (dgrown_set _ _ _ _)
    have HKY : Hid (Blk W9 Y #[.float .f32 p2, .float .f32 p1] 27) := by rw [← hW9]; exact Blk.set2 HK8.out _ _
    have HD9 : Hid (Dc w1 W9 g v zs) := HD8.out.app (row := some Y) (fun k hk => by cases hk; exact HYW.out.1) gg
    have HO9 : Hid (Ow .i64 3 w1.heap.size W9 o' ys) := by
      have h8 := HO8.out
      have hk := HK8.out
      refine World.ownsRow.kept h8 gg ?_
      cases hv : o'.ownBlock with
      | none => exact .inl rfl
      | some k => exact .inr (fun e => by
          cases e
          rcases ow_ne_blk h8 hk (by decide) with h | h
          · rw [h] at hv; cases hv
          · exact h hv)
    have HGD : Hid (GnD p2 p1 G2 G1) := HG2.out.2
    clear gg hW9 HG2
    obtain ⟨p, hp⟩ : ∃ p, p2 = p := ⟨_, rfl⟩
    obtain ⟨q, hq⟩ : ∃ q, p1 = q := ⟨_, rfl⟩
    obtain ⟨G, hG⟩ : ∃ G, G2 = G := ⟨_, rfl⟩
    obtain ⟨K, hK⟩ : ∃ K, G1 = K := ⟨_, rfl⟩
    rw [hp, hq, hG, hK] at HGD
    rw [hp, hq] at HKY HW9 ⊢
    rw [hp] at k1
    rw [hq] at k0
    have HDz : Hid (Dc w1 W9 g v zs) := HD9.out
    have HOz : Hid (Ow .i64 3 w1.heap.size W9 o' ys) := HO9.out
    clear HD9 HO9 HK8 hG hK hp hq
    obtain ⟨aa, cc, ho'⟩ := ow_form HOz.out
    subst ho'
    obtain ⟨m, hm⟩ : ∃ m, ys.length / 2 = m := ⟨_, rfl⟩
    have HMM : Hid (ys.length / 2 = m) := hm
    have hyl : ys.length = n := HYL.out.1
    have hn2 := HNN.out
    have hdv : ((ys.length : Int)).tdiv 2 = (m : Int) := by rw [Int.tdiv_eq_ediv_of_nonneg (by omega)]; omega
    have hdv' : (ys.length : Int) / 2 = (m : Int) := by omega
    have hm40 : m ≤ 40 := by omega
    obtain ⟨L, hL⟩ : ∃ L, ys.length = L := ⟨_, rfl⟩
    have HLL : Hid (ys.length = L) := hL
    have hL80 : L ≤ 80 := by omega
    rw [hL] at hdv hdv' ⊢
    clear hm hyl hn2 hL
    obtain ⟨P, hP⟩ : ∃ P, W9.heap.size = P := ⟨_, rfl⟩
    have HP : Hid (W9.heap.size = P) := hP
    obtain ⟨WE, hWE⟩ : ∃ W, W9.alloc (Obj.cells #[] 27) = W := ⟨_, rfl⟩
    have HWE : Hid (W9.alloc (Obj.cells #[] 27) = WE) := hWE
    have HDE : Hid (Dc W9 WE g v zs) := by rw [← hWE]; exact (Dc.start HDz.out.dr).below ((Below.refl _ _).alloc (Nat.le_refl _) _)
    have HOE : Hid (Og 2 smC 27 P WE (.slice (some ⟨P, 0, none⟩) 0 0) []) := by rw [← hWE, ← hP]; exact World.ownsRow_lit W9 #[] 0 (Nat.le_refl _) (by simp) (by simp)
    have HNE : Hid (([] : List (Nat × Nat)).length = 0 ∧ NsD []) := ⟨rfl, fun p hp => by cases hp⟩
    obtain ⟨u0, hu0⟩ : ∃ u, Value.slice (some ⟨P, 0, none⟩) 0 0 = u := ⟨_, rfl⟩
    rw [hu0] at HOE
    have HU0 : Hid (Value.slice (some ⟨P, 0, none⟩) 0 0 = u0) := hu0
    clear hWE hP hu0
    go_wp2
    rw [HW9.out]
    clear k0 k1 f0 f1 HW9
    rw [HWE.out, HP8.out, HP.out, HU0.out]
    clear HWE HU0
    go_loopw [8, 9] (fun u i wr => ∃ (j : Nat) (M : List (Nat × Nat)) (u' : Value), i = .int .i64 j ∧ u' = u ∧ j ≤ m + 26 ∧ Hid (M.length = j ∧ NsD M) ∧ Hid (Og 2 smC 27 P wr u' M ∧ Dc W9 wr g v zs)) (fun _ i _ => m + 26 - (intOf i).toNat)
    case atStart => exact ⟨0, [], _, rfl, rfl, Nat.zero_le _, HNE.out, HOE.out, HDE.out⟩
    case round =>
      obtain ⟨j, M, u, rfl, hu', hj, hM, hH⟩ := hrel
      subst hu'
      clear HNE HOE HDE
      by_cases hlt : j < m + 26
      case pos =>
        have hltI : (j : Int) < (m : Int) + 26 := by omega
        have HH : Hid (Og 2 smC 27 P wr u M ∧ Dc W9 wr g v zs) := hH
        clear hH
        go_wp2_with (fail)
        refine (below_c g v zs 17 _ HH.out.2.dr (by omega)).mono ?_
        rintro e wa ⟨x, rfl, x0, x1, -, d1, g1⟩
        have x2 := x1 (by omega)
        have HHa : Hid (Og 2 smC 27 P wa u M ∧ Dc W9 wa g v zs) := ⟨HH.out.1.draw g1 (by have := HH.out.2.lt; have := HP.out; omega), HH.out.2.draw d1 g1⟩
        clear d1 g1 x1 HH
        obtain ⟨r1, B1, hq1, hB1, hB1a⟩ := quoN (P := Try.prog) x x0 x2
        go_wp2_with (fail)
        refine (below_c g v zs 17 _ HHa.out.2.dr (by omega)).mono ?_
        rintro e wb ⟨y, rfl, y0, y1, -, d1, g1⟩
        have y2 := y1 (by omega)
        have HHb : Hid (Og 2 smC 27 P wb u M ∧ Dc W9 wb g v zs) := ⟨HHa.out.1.draw g1 (by have := HHa.out.2.lt; have := HP.out; omega), HHa.out.2.draw d1 g1⟩
        clear d1 g1 y1 HHa
        obtain ⟨r2, B2, hq2, hB2, hB2a⟩ := quoN (P := Try.prog) y y0 y2
        obtain ⟨W5, hW5⟩ : ∃ W, wb.alloc (Obj.cells #[.float .f32 r1, .float .f32 r2] 27) = W := ⟨_, rfl⟩
        have HW5 : Hid (wb.alloc (Obj.cells #[.float .f32 r1, .float .f32 r2] 27) = W5) := hW5
        have HS5 : Hid (P ≤ W5.heap.size) := by show _ ≤ _; rw [← hW5, ← HP.out]; have := HHb.out.2.gr.size; simp; omega
        have HH5 : Hid (Og 2 smC 27 P W5 u M ∧ Dc W9 W5 g v zs) := by
          have ba : Below wb.heap.size wb W5 := by rw [← hW5]; exact (Below.refl _ _).alloc (Nat.le_refl _) _
          exact ⟨HHb.out.1.below ba, HHb.out.2.below ba⟩
        have HK5 : Hid (Blk W5 wb.heap.size #[.float .f32 r1, .float .f32 r2] 27) := by rw [← hW5]; exact Blk.new _ _ _
        have HLN : Hid (M.length ≤ 1000) := by show _ ≤ _; have := hM.out.1; omega
        have HMN : Hid ((M ++ [(r1, r2)]).length = j + 1 ∧ NsD (M ++ [(r1, r2)])) := ⟨by have := hM.out.1; simp; omega, hM.out.2.app hB1 hB2 hB1a hB2a⟩
        clear hW5 HHb hB1 hB2 hB1a hB2a hM
        go_wp2_with (at_builtin; rw [HW5.out]; refine appSm rfl _ _ rfl P _ M rfl HH5.out.1 wb.heap.size r1 r2 rfl HK5.out (by have := HLN.out; omega) HS5.out ?_)
        intro u5 w6 o6 g6
        have HO6 : Hid (Og 2 smC 27 P w6 u5 (M ++ [(r1, r2)])) := o6
        have HD6 : Hid (Dc W9 w6 g v zs) := HH5.out.2.app (row := u.ownBlock) (fun k hk => by have := (HH5.out.1.lt k hk).1; have := HP.out; omega) g6
        clear o6 g6 HH5 HK5 HLN HS5 hq1 hq2
        go_wp2
        go_roundw
        case rel => exact ⟨j + 1, _, _, by go_num, rfl, by omega, HMN.out, HO6.out, HD6.out⟩
        case measure => simp [intOf]; omega
      case neg =>
      obtain rfl : j = m + 26 := by omega
      obtain ⟨ua, uc, huv⟩ := hH.out.1.form
      subst huv
      have HKr : Hid (Blk wr Y #[.float .f32 p, .float .f32 q] 27) := by
        have h0 := HKY.out
        show Blk _ _ _ _
        rw [Blk, hH.out.2.gr.block Y h0.lt (by have := HYW.out.2.1; simp; omega)]; exact h0
      have HRr : Hid (Blk wr R #[.float .f32 0, .float .f32 0] 27) := by
        have h0 := HK1.out.1
        have h1 := HDz.out.gr.block R h0.lt (by have := HK1.out.2; simpa using this)
        have h2 := hH.out.2.gr.block R (Nat.lt_of_lt_of_le h0.lt HDz.out.gr.size) (by have := HK1.out.2; simpa using this)
        show Blk _ _ _ _
        rw [Blk, h2, h1]; exact h0
      have HRN : Hid (Rg 2 smC wr (.slice ua M.length uc) M ∧ ∀ k, (Value.slice ua M.length uc).ownBlock = some k → k ≠ R) := ⟨hH.out.1.rd smC_len, fun k hk => by have := (hH.out.1.lt k hk).1; have h3 := HP.out; have h4 := HDz.out.gr.size; have := HYW.out.2.2; omega⟩
      have HRO : Hid (Rd .i64 wr (.slice aa L cc) ys ∧ ∀ k, (Value.slice aa L cc).ownBlock = some k → k ≠ R) := by
        have h0 := HOz.out.drawn hH.out.2.gr HDz.out.lt
        rw [HLL.out] at h0
        exact ⟨h0.rd, fun k hk => by have := (World.ownsRow.lt h0 k hk).1; have := HYW.out.2.2; omega⟩
      have HBr : Hid (Below w.heap.size w wr) := (HB.out.1.trans (grown_below HDz.out.gr HB.out.1.size (fun k e => by cases e; exact HB.out.2))).trans (grown_below hH.out.2.gr (HB.out.1.trans (grown_below HDz.out.gr HB.out.1.size (fun k e => by cases e; exact HB.out.2))).size (fun k e => by cases e; exact HB.out.2))
      have HYR : Hid (Y ≠ R) := by have := HYW.out; show Y ≠ R; omega
      have HML : Hid (M.length = ys.length / 2 + 26 ∧ NsD M) := ⟨by rw [HMM.out]; exact hM.out.1, hM.out.2⟩
      clear hH hM hlt hj
      have HRW : Hid (w.heap.size ≤ R) := by show _ ≤ _; have := HRR.out; omega
      go_wp2
      refine region_vals [undef, undef, undef, undef, undef, undef] (RgDS (w) (.slice aa L cc) (.slice ua M.length uc) (ys) (M) (p) (q) (Y) (R)) (by kernel_rfl) (by kernel_rfl) ?_ ⟨?_, ?_, ?_, ?_, ?_, ?_, trivial⟩ ?_
      · refine ⟨_, _, _, _, _, _, rfl, ⟨(HBr.out.drew), (HRO.out.1), (HRN.out.1), (HKr.out.drew), (fun _ => HRr.out.drew), ?_, ?_, ?_, ?_, ?_, ?_⟩⟩ <;> simp
      · rintro d vs W ⟨v0, v1, v2, v3, v4, v5, rfl, H⟩ hn hd
        simp only [putAll, Act.put, List.setIfInBounds_toArray, List.set_cons_succ, List.set_cons_zero]
        have HH1 : Hid (RgD (w) (.slice aa L cc) (.slice ua M.length uc) (ys) (M) (p) (q) (Y) (R) d W v0 v1 v2 v3 v4 v5 ) := H
        clear H
        have HHN : Hid (d 0 = false) := hn
        clear hd hn
        go_wp2
        have H0 := HH1.out
        have H := HH1.out
        have hn := HHN.out
        refine ⟨rfl, [.slice aa L cc, v1, v2, v3, v4, v5], ?_, .slice aa L cc, v1, v2, v3, v4, v5, rfl, ⟨H.bel, H.ro, H.ru, H.kY, (by have h := H.k0; simpa [doneSet] using h), (by have h := H.k1; simpa [doneSet] using h), (fun _ => rfl), (by have h := H.f1; simpa [doneSet] using h), (by have h := H.f2; simpa [doneSet] using h), (by have h := H.f3; simpa [doneSet] using h), (by have h := H.f5; simpa [doneSet] using h)⟩⟩
        simp only [putAll, Act.put, List.setIfInBounds_toArray, List.set_cons_succ, List.set_cons_zero]
        all_goals rfl
      · rintro d vs W ⟨v0, v1, v2, v3, v4, v5, rfl, H⟩ hn hd
        simp only [putAll, Act.put, List.setIfInBounds_toArray, List.set_cons_succ, List.set_cons_zero]
        have K5 := H.kY
        have z0 := K5.cell 0
        have z1 := K5.cell 1
        simp at z0 z1
        clear K5
        have HH1 : Hid (RgD (w) (.slice aa L cc) (.slice ua M.length uc) (ys) (M) (p) (q) (Y) (R) d W v0 v1 v2 v3 v4 v5 ) := H
        clear H
        have HHN : Hid (d 1 = false) := hn
        clear hd hn
        go_wp2
        have H0 := HH1.out
        have H := HH1.out
        have hn := HHN.out
        refine ⟨rfl, [v0, .agg #[.float .f32 p, .float .f32 q], v2, v3, v4, v5], ?_, v0, .agg #[.float .f32 p, .float .f32 q], v2, v3, v4, v5, rfl, ⟨H.bel, H.ro, H.ru, H.kY, (by have h := H.k0; simpa [doneSet] using h), (by have h := H.k1; simpa [doneSet] using h), (by have h := H.f0; simpa [doneSet] using h), (fun _ => rfl), (by have h := H.f2; simpa [doneSet] using h), (by have h := H.f3; simpa [doneSet] using h), (by have h := H.f5; simpa [doneSet] using h)⟩⟩
        simp only [putAll, Act.put, List.setIfInBounds_toArray, List.set_cons_succ, List.set_cons_zero]
        all_goals rfl
      · rintro d vs W ⟨v0, v1, v2, v3, v4, v5, rfl, H⟩ hn hd
        simp only [putAll, Act.put, List.setIfInBounds_toArray, List.set_cons_succ, List.set_cons_zero]
        have HH1 : Hid (RgD (w) (.slice aa L cc) (.slice ua M.length uc) (ys) (M) (p) (q) (Y) (R) d W v0 v1 v2 v3 v4 v5 ) := H
        clear H
        have HHN : Hid (d 2 = false) := hn
        clear hd hn
        go_wp2
        have H0 := HH1.out
        have H := HH1.out
        have hn := HHN.out
        refine ⟨rfl, [v0, v1, .slice ua M.length uc, v3, v4, v5], ?_, v0, v1, .slice ua M.length uc, v3, v4, v5, rfl, ⟨H.bel, H.ro, H.ru, H.kY, (by have h := H.k0; simpa [doneSet] using h), (by have h := H.k1; simpa [doneSet] using h), (by have h := H.f0; simpa [doneSet] using h), (by have h := H.f1; simpa [doneSet] using h), (fun _ => rfl), (by have h := H.f3; simpa [doneSet] using h), (by have h := H.f5; simpa [doneSet] using h)⟩⟩
        simp only [putAll, Act.put, List.setIfInBounds_toArray, List.set_cons_succ, List.set_cons_zero]
        all_goals rfl
      · rintro d vs W ⟨v0, v1, v2, v3, v4, v5, rfl, H⟩ hn hd
        simp only [putAll, Act.put, List.setIfInBounds_toArray, List.set_cons_succ, List.set_cons_zero]
        have h0 : d 0 = true := hd { on := 0, ground := .data } (by simp) rfl
        obtain rfl := H.f0 h0
        have HH1 : Hid (RgD (w) (.slice aa L cc) (.slice ua M.length uc) (ys) (M) (p) (q) (Y) (R) d W ((.slice aa L cc)) v1 v2 v3 v4 v5 ) := H
        clear H
        have HHN : Hid (d 3 = false) := hn
        have HHD : Hid (d 0 = true) := h0
        clear hd hn h0
        go_wp2
        have H0 := HH1.out
        have H := HH1.out
        have hn := HHN.out
        have h0 := HHD.out
        refine ⟨rfl, [(.slice aa L cc), v1, v2, .slice aa L cc, v4, v5], ?_, (.slice aa L cc), v1, v2, .slice aa L cc, v4, v5, rfl, ⟨H.bel, H.ro, H.ru, H.kY, (by have h := H.k0; simpa [doneSet] using h), (by have h := H.k1; simpa [doneSet] using h), (fun _ => rfl), (by have h := H.f1; simpa [doneSet] using h), (by have h := H.f2; simpa [doneSet] using h), (fun _ => rfl), (by have h := H.f5; simpa [doneSet] using h)⟩⟩
        simp only [putAll, Act.put, List.setIfInBounds_toArray, List.set_cons_succ, List.set_cons_zero]
        all_goals rfl
      · rintro d vs W ⟨v0, v1, v2, v3, v4, v5, rfl, H⟩ hn hd
        simp only [putAll, Act.put, List.setIfInBounds_toArray, List.set_cons_succ, List.set_cons_zero]
        have h1 : d 1 = true := hd { on := 1, ground := .data } (by simp) rfl
        have K5 := H.k0 hn
        have HK5 : Hid (Blk W R #[.float .f32 0, .float .f32 0] 27) := K5
        have z0 := K5.cell 0
        have z1 := K5.cell 1
        have f0 := K5.frozen 0
        have f1 := K5.frozen 1
        simp at z0 z1
        clear K5
        obtain rfl := H.f1 h1
        have HH1 : Hid (RgD (w) (.slice aa L cc) (.slice ua M.length uc) (ys) (M) (p) (q) (Y) (R) d W v0 (.agg #[.float .f32 p, .float .f32 q]) v2 v3 v4 v5 ) := H
        clear H
        have HHN : Hid (d 4 = false) := hn
        have HHD : Hid (d 1 = true) := h1
        clear hd hn h1
        go_wp2
        have H0 := HH1.out
        have H := HH1.out
        have hn := HHN.out
        have h1 := HHD.out
        refine ⟨rfl, [v0, .agg #[.float .f32 p, .float .f32 q], v2, v3, undef, v5], ?_, v0, .agg #[.float .f32 p, .float .f32 q], v2, v3, undef, v5, rfl, ⟨(below_set2 H0.bel _ HRW.out _ _), (H0.ro.grownE (grow2 _ _ _ _) (.inr (ne_some HRO.out.2))), (H0.ru.grown (grow2 _ _ _ _) (.inr (ne_some HRN.out.2))), ((H0.kY.other _ _ HYR.out).other _ _ HYR.out), (fun e => absurd e (by simp [doneSet])), (fun _ => Blk.set2 HK5.out _ _), (by have h := H.f0; simpa [doneSet] using h), (fun _ => rfl), (by have h := H.f2; simpa [doneSet] using h), (by have h := H.f3; simpa [doneSet] using h), (by have h := H.f5; simpa [doneSet] using h)⟩⟩
        simp only [putAll, Act.put, List.setIfInBounds_toArray, List.set_cons_succ, List.set_cons_zero]
        all_goals rfl
      · rintro d vs W ⟨v0, v1, v2, v3, v4, v5, rfl, H⟩ hn hd
        simp only [putAll, Act.put, List.setIfInBounds_toArray, List.set_cons_succ, List.set_cons_zero]
        have h2 : d 2 = true := hd { on := 2, ground := .data } (by simp) rfl
        obtain rfl := H.f2 h2
        have HH1 : Hid (RgD (w) (.slice aa L cc) (.slice ua M.length uc) (ys) (M) (p) (q) (Y) (R) d W v0 v1 ((.slice ua M.length uc)) v3 v4 v5 ) := H
        clear H
        have HHN : Hid (d 5 = false) := hn
        have HHD : Hid (d 2 = true) := h2
        clear hd hn h2
        go_wp2
        have H0 := HH1.out
        have H := HH1.out
        have hn := HHN.out
        have h2 := HHD.out
        refine ⟨rfl, [v0, v1, (.slice ua M.length uc), v3, v4, .slice ua M.length uc], ?_, v0, v1, (.slice ua M.length uc), v3, v4, .slice ua M.length uc, rfl, ⟨H.bel, H.ro, H.ru, H.kY, (by have h := H.k0; simpa [doneSet] using h), (by have h := H.k1; simpa [doneSet] using h), (by have h := H.f0; simpa [doneSet] using h), (by have h := H.f1; simpa [doneSet] using h), (fun _ => rfl), (by have h := H.f3; simpa [doneSet] using h), (fun _ => rfl)⟩⟩
        simp only [putAll, Act.put, List.setIfInBounds_toArray, List.set_cons_succ, List.set_cons_zero]
        all_goals rfl
      rintro d' vs W ⟨v0, v1, v2, v3, v4, v5, rfl, H⟩ hn
      obtain rfl := H.f0 (hn 0 (by decide))
      obtain rfl := H.f1 (hn 1 (by decide))
      obtain rfl := H.f2 (hn 2 (by decide))
      obtain rfl := H.f3 (hn 3 (by decide))
      obtain rfl := H.f5 (hn 5 (by decide))
      have HKF := H.k1 (hn 4 (by decide))
      simp only [putAll, Act.put, List.setIfInBounds_toArray, List.set_cons_succ, List.set_cons_zero]
      go_wp2
      exact bodyPost_ret (results_D3 rfl _ _ R p q (.slice aa L cc) (.slice ua M.length uc) rfl rfl rfl HKF) rfl ⟨.slice aa L cc, ys, p, q, .slice ua M.length uc, M, _, _, rfl, H.ro, by have := HNN.out; have := HYL.out.1; omega, HYL.out.2, HGD.out, H.ru, HML.out.1, HML.out.2, H.bel⟩


end Go.Proofs.Ytomgdlnpajfjhaa
