/- FnBurstBack; no condition. -/
import Derived.Test.YtomgdlnpajfjhaaBbn
import Derived.Test.YtomgdlnpajfjhaaBri
import Derived.Test.YtomgdlnpajfjhaaBti
import Derived.Test.YtomgdlnpajfjhaaGni
import Derived.Test.YtomgdlnpajfjhaaAlk
import Derived.Test.YtomgdlnpajfjhaaNrw
import Derived.Test.YtomgdlnpajfjhaaSmi
import Derived.Test.YtomgdlnpajfjhaaMixC
import Derived.Test.YtomgdlnpajfjhaaOver
namespace Go.Proofs.Ytomgdlnpajfjhaa
open Go.RowKit Go.ChangeShapes Go.WideShapes Go.ChangeAt
set_option linter.unusedVariables false
set_option linter.unusedSimpArgs false
set_option maxRecDepth 8000

theorem narrowU_c (a b x y : Nat) (hx : ∀ y', NA (fc .f64 a) y' → y' = x) (hy : ∀ y', NA (fc .f64 b) y' → y' = y) (w : World) : Calls Try.prog 13 #[.agg #[.float .f64 a, .float .f64 b]] w fun e w' => e = .returned (.agg #[.float .f32 x, .float .f32 y]) ∧ Below w.heap.size w w' :=
  (narrow_c a b w).mono fun e w' ⟨x', y', he, h1, h2, hb⟩ => ⟨by rw [he, hx x' h1, hy y' h2], hb⟩
set_option maxHeartbeats 25600000 in
theorem backLaw (v : Value) (zs : List Int) (w : World) (h : Rd .u8 w v zs) (hok : ∀ z ∈ zs, (Lit.int .u8 z).wf = true) : Calls Try.prog 3 #[v] w fun e w' => e = .returned (.bool true) ∧ Below w.heap.size w w' := by
  have HK : Hid (∀ z ∈ zs, 0 ≤ z ∧ z ≤ 255) := fun z hz => bounds_u8 (hok z hz)
  have HR : Hid (Rd .u8 w v zs) := h
  have HB : Hid (Below w.heap.size w w) := Below.refl _ _
  have hsf := storeF
  clear h hok
  go_enter Try.func3, Try.ntmps3
  go_wp2_with (fail)
  refine (big_c v zs w HR.out).mono ?_
  rintro e w1 ⟨rfl, hw⟩
  rw [hw]
  clear hw w1
  by_cases hl : (1048576 : Int) < (zs.length : Int)
  · rw [decide_eq_true hl]
    go_wp2
    go_ret
    exact ⟨rfl, HB.out⟩
  rw [decide_eq_false hl]
  have HL : Hid (zs.length ≤ 1048576) := by show _ ≤ _; omega
  clear hl
  go_wp2_with (fail)
  refine (drawAirWay_c v zs w HR.out HK.out (by have := HL.out; omega)).mono ?_
  rintro e w1 ⟨vb, bs, p, q, vn, M, GR, GI, rfl, r1, l1, z1, g1, n1, m1, d1, b1⟩
  have HLB : Hid (2 ≤ bs.length ∧ bs.length ≤ 80 ∧ bs.length % 2 = 0) := l1
  have HZB : Hid (∀ z ∈ bs, 0 ≤ z ∧ z ≤ 1) := z1
  have HGD : Hid (GnD p q GR GI) := g1
  have HND : Hid (NsD M) := d1
  have HBB : Hid (brB bs = true) := brB_of l1 z1
  have HBL : Hid ((brL bs).length = bs.length / 2 + 26) := brL_len HBB.out
  have HML : Hid (M.length = bs.length / 2 + 26) := m1
  obtain ⟨X, hX⟩ : ∃ X, w1.heap.size = X := ⟨_, rfl⟩
  have HXX : Hid (w1.heap.size = X) := hX
  obtain ⟨W1, hW1⟩ : ∃ W, w1.alloc (Obj.cells #[.float .f32 p, .float .f32 q] 27) = W := ⟨_, rfl⟩
  have HW1 : Hid (w1.alloc (Obj.cells #[.float .f32 p, .float .f32 q] 27) = W1) := hW1
  have ba : Below w1.heap.size w1 W1 := by rw [← hW1]; exact (Below.refl _ _).alloc (Nat.le_refl _) _
  have HB1 : Hid (Below w.heap.size w W1) := belowCall b1 ba b1.size
  have HX1 : Hid (Blk W1 X #[.float .f32 p, .float .f32 q] 27) := by rw [← hW1, ← hX]; exact Blk.new _ _ _
  have HRb1 : Hid (Rd .i64 W1 vb bs) := r1.below ba
  have HRn1 : Hid (Rg 2 smC W1 vn M) := n1.below ba
  clear l1 z1 g1 d1 m1 r1 n1 b1 ba hX hW1 HB
  go_wp2_with (fail)
  rw [HW1.out, HXX.out]
  refine (burstI_c vb bs W1 HRb1.out).mono ?_
  rintro e w2 ⟨vB, rfl, o2, b2⟩
  rw [HBB.out]
  have HB2 : Hid (Below w.heap.size w w2) := belowCall HB1.out b2 HB1.out.size
  have HX2 : Hid (Blk w2 X #[.float .f32 p, .float .f32 q] 27) := HX1.out.below b2 HX1.out.lt
  have HRb2 : Hid (Rd .i64 w2 vb bs) := HRb1.out.below b2
  have HRn2 : Hid (Rg 2 smC w2 vn M) := HRn1.out.below b2
  obtain ⟨Bl, hBl⟩ : ∃ Bl, brL bs = Bl := ⟨_, rfl⟩
  have HBE : Hid (brL bs = Bl) := hBl
  rw [hBl] at o2 HBL
  have HRB2 : Hid (Rg 2 smC w2 vB Bl) := o2.rd smC_len
  clear o2 b2 hBl HB1 HX1 HRb1 HRn1 HW1 HXX
  -- the forms of the three rows
  obtain ⟨ab, cb, hvb, hb1, hb2, -⟩ := HRb2.out
  obtain ⟨an, cn, hvn, hn1, hn2, -⟩ := HRn2.out
  obtain ⟨aB, cB, hvB, hB1, hB2, -⟩ := HRB2.out
  subst hvb hvn hvB
  unfold maxLen at hb2 hn2 hB2
  obtain ⟨L, hL⟩ : ∃ L, bs.length = L := ⟨_, rfl⟩
  obtain ⟨n, hn⟩ : ∃ n, Bl.length = n := ⟨_, rfl⟩
  have HLL : Hid (bs.length = L) := hL
  have HNN : Hid (Bl.length = n) := hn
  have hmn : M.length = n := by rw [← hn, HBL.out, HML.out]
  have HMN : Hid (M.length = n) := hmn
  have hlb := HLB.out
  rw [hL] at hlb
  obtain ⟨m, hm⟩ : ∃ m, L / 2 = m := ⟨_, rfl⟩
  have hnm : n = m + 26 := by rw [← hn, HBL.out, hL, hm]
  have HNM : Hid (n = m + 26 ∧ m ≤ 40) := ⟨hnm, by omega⟩
  have hdv : ((L : Int)).tdiv 2 = (m : Int) := by rw [Int.tdiv_eq_ediv_of_nonneg (by omega)]; omega
  have hdv' : (L : Int) / 2 = (m : Int) := by omega
  have hne1 : ((n : Int) != (n : Int)) = false := by simp
  have hne2 : ((n : Int) != (m : Int) + 26) = false := by rw [hnm]; simp
  have hm40 : m ≤ 40 := by omega
  have hn66 : n ≤ 66 := by omega
  have hL80 : L ≤ 80 := by omega
  rw [hL] at hb1 HRb2 ⊢
  rw [hmn] at hn1 HRn2 ⊢
  rw [hn] at hB1 HRB2 ⊢
  clear hL hn hmn hlb hm hnm
  have x0 := HX2.out.cell 0
  have x1 := HX2.out.cell 1
  simp at x0 x1
  go_wp2_with (fail)
  clear hne1 hne2 hdv hdv' x0 x1
  refine (airI_c _ _ Bl M p q w2 HRB2.out HRn2.out (by rw [HNN.out, HMN.out]) (by rw [HNN.out]; have := HNM.out; omega)).mono ?_
  rintro e w3 ⟨v3, air, rfl, o3, l3, a3, b3⟩
  have HBT : Hid (btB air = true ∧ btL air = bs) := by
    rw [← HBE.out] at l3 a3
    exact back_bits HLB.out HZB.out HGD.out HND.out HML.out l3 a3
  have HB3 : Hid (Below w.heap.size w w3) := belowCall HB2.out b3 HB2.out.size
  have HX3 : Hid (Blk w3 X #[.float .f32 p, .float .f32 q] 27) := HX2.out.below b3 HX2.out.lt
  have HRb3 : Hid (Rd .i64 w3 (.slice ab L cb) bs) := HRb2.out.below b3
  have HRB3 : Hid (Rg 2 smC w3 (.slice aB n cB) Bl) := HRB2.out.below b3
  have HA3 : Hid (Rg 2 smC w3 v3 air) := o3.rd smC_len
  clear o3 l3 a3 b3 HB2 HX2 HRb2 HRB2 HRn2
  go_wp2_with (fail)
  refine (bitsI_c v3 air w3 HA3.out).mono ?_
  rintro e w4 ⟨v4, rfl, o4, b4⟩
  rw [HBT.out.1]
  have HV4 : Hid (Rd .i64 w4 v4 bs) := by have := o4.rd; rw [HBT.out.2] at this; exact this
  have HB4 : Hid (Below w.heap.size w w4) := belowCall HB3.out b4 HB3.out.size
  have HX4 : Hid (Blk w4 X #[.float .f32 p, .float .f32 q] 27) := HX3.out.below b4 HX3.out.lt
  have HRb4 : Hid (Rd .i64 w4 (.slice ab L cb) bs) := HRb3.out.below b4
  have HRB4 : Hid (Rg 2 smC w4 (.slice aB n cB) Bl) := HRB3.out.below b4
  clear o4 b4 HB3 HX3 HRb3 HRB3 HA3
  -- the open statement with the made row
  obtain ⟨S, hS⟩ : ∃ S : World → Prop, ∀ W, S W ↔ Blk W X #[.float .f32 p, .float .f32 q] 27 := ⟨_, fun _ => Iff.rfl⟩
  have y0 : ∀ W : At S, W.wd.cell? ⟨X, 0, none⟩ = some (.float .f32 p) := fun W => by have := ((hS _).1 W.ok).cell 0; simpa using this
  have y1 : ∀ W : At S, W.wd.cell? ⟨X, 1, none⟩ = some (.float .f32 q) := fun W => by have := ((hS _).1 W.ok).cell 1; simpa using this
  have HSS : Hid (∀ W, S W ↔ Blk W X #[.float .f32 p, .float .f32 q] 27) := hS
  have HSD : Hid (S w4.drew) := (hS _).2 HX4.out.drew
  have ne : Nonempty (At S) := ⟨⟨_, HSD.out⟩⟩
  have bd : Below w4.heap.size w4 w4.drew := (Below.refl _ _).drew
  clear hS
  obtain ⟨i0, hi, hz0, hz1, hz2⟩ := info_parts infoSm
  go_wp2
  refine region_anyS S (by kernel_rfl) ?_
  refine anyS_quiet [true, true, true, true, false, false, false, false, false, false, false] 7 rfl (by kernel_rfl) (fun _ _ _ _ _ h => h) HSD.out ?_
  simp only [selT]
  repeat (go_big_quiet_step (fail))
  refine wpQuiet_nil ?_
  obtain ⟨u4, hu4⟩ : ∃ x, w4.drew = x := ⟨_, rfl⟩
  rw [hu4] at bd HSD ⊢
  have HB5 : Hid (Below w.heap.size w u4) := belowCall HB4.out bd HB4.out.size
  have HX5 : Hid (Blk u4 X #[.float .f32 p, .float .f32 q] 27) := HX4.out.below bd HX4.out.lt
  have HRb5 : Hid (Rd .i64 u4 (.slice ab L cb) bs) := HRb4.out.below bd
  have HRB5 : Hid (Rg 2 smC u4 (.slice aB n cB) Bl) := HRB4.out.below bd
  have HV5 : Hid (Rd .i64 u4 v4 bs) := HV4.out.below bd
  clear hu4 bd HB4 HX4 HRb4 HRB4 HV4
  refine anyS_one 4 (by kernel_rfl) rfl ?_
  refine wpList_make_full _ rfl _ _ 28 rfl u4.heap.size 27 i0 (.agg #[.float .f32 0, .float .f32 0]) 2 Try.underlying28 hi hz0 hz1 .i64 .i64 _ _ n rfl rfl rfl rfl (by rw [hz2]; omega) (by unfold maxLen; omega) (Nat.le_refl _) ?_
  intro w6 ho hg
  have b6 : Below u4.heap.size u4 w6 := grown_below hg (Nat.le_refl _) (by simp)
  have HZ6 : Hid (Rg 2 smC w6 (.slice (some ⟨u4.heap.size, 0, none⟩) n n) (List.replicate n ((0, 0) : Nat × Nat))) := by
    have e : (List.replicate n ((0, 0) : Nat × Nat)).flatMap smC = (madeCells #[.float .f32 0, .float .f32 0] (n * 2)).toList := (fm_rep smC_len (by decide) ((0, 0) : Nat × Nat) #[.float .f32 0, .float .f32 0] rfl n).symm ▸ rfl
    have h1 : Og 2 smC 27 u4.heap.size w6 (.slice (some ⟨u4.heap.size, 0, none⟩) n n) (List.replicate n ((0, 0) : Nat × Nat)) := by rw [Og, List.length_replicate, e]; exact ho
    exact h1.rd smC_len
  have HB6 : Hid (Below w.heap.size w w6) := belowCall HB5.out b6 HB5.out.size
  have HX6 : Hid (Blk w6 X #[.float .f32 p, .float .f32 q] 27) := HX5.out.below b6 HX5.out.lt
  have HRb6 : Hid (Rd .i64 w6 (.slice ab L cb) bs) := HRb5.out.below b6
  have HRB6 : Hid (Rg 2 smC w6 (.slice aB n cB) Bl) := HRB5.out.below b6
  have HV6 : Hid (Rd .i64 w6 v4 bs) := HV5.out.below b6
  have HS6 : Hid (S w6) := (HSS.out _).2 HX6.out
  clear ho hg b6 HB5 HX5 HRb5 HRB5 HV5 HSD y0 y1 ne
  go_wp2
  refine ⟨HS6.out, ?_⟩
  refine anyS_one 5 (by kernel_rfl) rfl ?_
  go_wp2_with (fail)
  refine (airI_c _ _ Bl (List.replicate n (0, 0)) p q w6 HRB6.out HZ6.out (by rw [HNN.out, List.length_replicate]) (by rw [HNN.out]; have := HNM.out; omega)).mono ?_
  rintro e w7 ⟨v7, air2, rfl, o7, l7, a7, b7⟩
  have hbg := back_gain (n := n) HLB.out HZB.out HGD.out (air := air2) (by rw [HBE.out]; exact l7) (by rw [HBE.out]; exact a7)
  have HGB : Hid (gnB air2 = true) := hbg.1
  obtain ⟨-, x, y, hux, huy, hox, hoy⟩ := hbg
  have HUX : Hid ((∀ y', NA (gnF pXR air2) y' → y' = x) ∧ (∀ y', NA (gnF pXI air2) y' → y' = y)) := ⟨hux, huy⟩
  have HOX : Hid (FloatKind.f32.format.order x p = some .eq ∧ FloatKind.f32.format.order y q = some .eq) := ⟨hox, hoy⟩
  have HB7 : Hid (Below w.heap.size w w7) := belowCall HB6.out b7 HB6.out.size
  have HX7 : Hid (Blk w7 X #[.float .f32 p, .float .f32 q] 27) := HX6.out.below b7 HX6.out.lt
  have HRb7 : Hid (Rd .i64 w7 (.slice ab L cb) bs) := HRb6.out.below b7
  have HV7 : Hid (Rd .i64 w7 v4 bs) := HV6.out.below b7
  have HA7 : Hid (Rg 2 smC w7 v7 air2) := o7.rd smC_len
  have HS7 : Hid (S w7) := (HSS.out _).2 HX7.out
  clear o7 l7 a7 b7 hux huy hox hoy HB6 HX6 HRb6 HRB6 HV6 HS6 HZ6
  go_wp2
  refine ⟨HS7.out, ?_⟩
  have ne : Nonempty (At S) := ⟨⟨_, HS7.out⟩⟩
  refine anyS_quiet [false, false, false, false, false, false, true, true, true, true, true] 0 rfl (by kernel_rfl) (fun _ _ _ _ _ h => h) HS7.out ?_
  simp only [selT]
  repeat (go_big_quiet_step (fail))
  refine wpQuiet_nil ?_
  refine anyS_end (by kernel_rfl) ?_
  clear ne HS7 HSS
  go_wp2_with (fail)
  refine (gainI_c v7 air2 w7 HA7.out).mono ?_
  rintro e w8 ⟨uu, qq, rfl, hu, hq, -, b8⟩
  rw [HGB.out]
  have HUQ : Hid ((∀ y', NA (fc .f64 uu) y' → y' = x) ∧ (∀ y', NA (fc .f64 qq) y' → y' = y)) := by rw [hu, hq]; exact HUX.out
  obtain ⟨Y, hY⟩ : ∃ Y, w8.heap.size = Y := ⟨_, rfl⟩
  have HYY : Hid (w8.heap.size = Y) := hY
  obtain ⟨W9, hW9⟩ : ∃ W, w8.alloc (Obj.cells #[.float .f64 uu, .float .f64 qq] 38) = W := ⟨_, rfl⟩
  have HW9 : Hid (w8.alloc (Obj.cells #[.float .f64 uu, .float .f64 qq] 38) = W9) := hW9
  have ba : Below w8.heap.size w8 W9 := by rw [← hW9]; exact (Below.refl _ _).alloc (Nat.le_refl _) _
  have b9 : Below w7.heap.size w7 W9 := belowCall b8 ba b8.size
  have HB9 : Hid (Below w.heap.size w W9) := belowCall HB7.out b9 HB7.out.size
  have hX9 : Blk W9 X #[.float .f32 p, .float .f32 q] 27 := HX7.out.below b9 HX7.out.lt
  have hY9 : Blk W9 Y #[.float .f64 uu, .float .f64 qq] 38 := by rw [← hW9, ← hY]; exact Blk.new _ _ _
  have HRb9 : Hid (Rd .i64 W9 (.slice ab L cb) bs) := HRb7.out.below b9
  have HV9 : Hid (Rd .i64 W9 v4 bs) := HV7.out.below b9
  clear hu hq b8 ba b9 hY hW9 HB7 HX7 HRb7 HV7 HA7 HUX
  have z0 : ∀ W : Ov W9, W.wd.cell? ⟨X, 0, none⟩ = some (.float .f32 p) := fun W => (W.ok.cell hX9.lt).trans (hX9.cell 0)
  have z1 : ∀ W : Ov W9, W.wd.cell? ⟨X, 1, none⟩ = some (.float .f32 q) := fun W => (W.ok.cell hX9.lt).trans (hX9.cell 1)
  have z2 : ∀ W : Ov W9, W.wd.cell? ⟨Y, 0, none⟩ = some (.float .f64 uu) := fun W => (W.ok.cell hY9.lt).trans (hY9.cell 0)
  have z3 : ∀ W : Ov W9, W.wd.cell? ⟨Y, 1, none⟩ = some (.float .f64 qq) := fun W => (W.ok.cell hY9.lt).trans (hY9.cell 1)
  have ne1 : Nonempty (Ov W9) := ⟨⟨_, Below.refl _ _⟩⟩
  have HC1 : Hid (∀ W : Ov W9, Calls Try.prog 11 #[v4, .slice ab L cb] W.wd fun e w'' => e = .returned (.bool true) ∧ ∃ W' : Ov W9, w'' = W'.wd) := fun W => ov_call ((sameI v4 _ bs bs _ (HV9.out.below W.ok) (HRb9.out.below W.ok)).mono fun e w' ⟨he, hb⟩ => ⟨by rw [he, decide_eq_true (show bs = bs from rfl)], hb⟩)
  have HC2 : Hid (∀ W : Ov W9, Calls Try.prog 13 #[.agg #[.float .f64 uu, .float .f64 qq]] W.wd fun e w'' => e = .returned (.agg #[.float .f32 x, .float .f32 y]) ∧ ∃ W' : Ov W9, w'' = W'.wd) := fun W => ov_call (narrowU_c uu qq x y HUQ.out.1 HUQ.out.2 _)
  have HC3 : Hid (∀ W : Ov W9, Calls Try.prog 12 #[.agg #[.float .f32 x, .float .f32 y], .agg #[.float .f32 p, .float .f32 q]] W.wd fun e w'' => e = .returned (.bool true) ∧ ∃ W' : Ov W9, w'' = W'.wd) := fun W => ov_call (alike_c x y p q HOX.out.1 HOX.out.2 _)
  clear hX9 hY9
  go_wp2
  rw [HW9.out, HYY.out]
  refine region_over (by kernel_rfl) (by kernel_rfl) ?_
  repeat (go_big_quiet_step (first | (go_at_call 11; exact HC1.out _) | (go_at_call 13; exact HC2.out _) | (go_at_call 12; exact HC3.out _)))
  refine wpQuiet_nil ?_
  rintro _ ⟨W, rfl⟩
  go_wp2
  go_ret
  exact ⟨rfl, belowCall HB9.out W.ok HB9.out.size⟩

end Go.Proofs.Ytomgdlnpajfjhaa
