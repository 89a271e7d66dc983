/- FnDigitFound, walked; the two tables are as they were laid. -/
import Derived.Test.YtgdejlofkjdkoaaDoorFne
import Derived.Test.YtgdejlofkjdkoaaDoorDsi
import Derived.Test.YtgdejlofkjdkoaaDoorTon
namespace Go.Proofs.YtgdejlofkjdkoaaDoor
open Go.RowKit Go.ChangeShapes Go.WideShapes Go.ChangeAt
set_option linter.unusedVariables false
set_option linter.unusedSimpArgs false
set_option maxRecDepth 8000
theorem big_c (v : Value) (zs : List Int) (w : World) (h : Rd .u8 w v zs) : Calls Tryd.prog 8 #[v] w fun e w' => e = .returned (.bool (decide ((1048576 : Int) < (zs.length : Int)))) ∧ w' = w := by
  obtain ⟨a, cap, rfl, -, h2, -⟩ := h
  unfold maxLen at h2
  go_enter Tryd.func8, Tryd.ntmps8
  go_wp2
  go_ret
  exact ⟨rfl, rfl⟩
set_option maxHeartbeats 1600000 in
theorem at_c (v : Value) (zs : List Int) (i : Int) (w : World) (h : Rd .u8 w v zs) (hok : ∀ z ∈ zs, 0 ≤ z ∧ z ≤ 255) (hi0 : 0 ≤ i) (hi : i ≤ 100000) (hlen : zs.length ≤ 1048576) :
   Calls Tryd.prog 9 #[v, .int .i64 i] w fun e w' => ∃ x : Int, e = .returned (.int .i64 x) ∧ 0 ≤ x ∧ x ≤ 255 ∧ w' = w := by
  obtain ⟨a, cap, rfl, h1, h2, h3⟩ := h
  unfold maxLen at h2
  obtain ⟨k, rfl⟩ := Int.eq_ofNat_of_zero_le hi0
  by_cases hlt : k < zs.length
  · rcases h3 with h3 | ⟨b, off, rfl, h4⟩
    · subst h3; simp at hlt
    have hc := h4 k hlt
    have hb := hok _ (List.getElem_mem hlt)
    have hltI : (k : Int) < (zs.length : Int) := by omega
    clear h4 hok
    go_enter Tryd.func9, Tryd.ntmps9
    go_wp2
    go_ret
    exact ⟨_, rfl, hb.1, hb.2, rfl⟩
  · clear h3 hok
    go_enter Tryd.func9, Tryd.ntmps9
    go_wp2
    go_ret
    exact ⟨_, rfl, by omega, by omega, rfl⟩

/-- levels of a tone, the first j with noise -/
structure Nz (d : Nat) (sz ph : Int) (j : Nat) (zs : List Int) : Prop where
  l : zs.length = 256
  n : ∀ i, i < 256 → ∃ n : Int, zs.getD i 0 = tnF d sz ph i + n ∧ -(sz + 20) ≤ 20 * n ∧ 20 * n ≤ sz + 20 ∧ (j ≤ i → n = 0)
theorem Nz.zero (d : Nat) (sz ph : Int) (hs : 0 ≤ sz) : Nz d sz ph 0 (tnL d sz ph 256) := ⟨tnL_len _ _ _ _, fun i hi => ⟨0, by simp [tnL, hi], by omega, by omega, fun _ => rfl⟩⟩
theorem Nz.at {d : Nat} {sz ph : Int} {j : Nat} {zs : List Int} (h : Nz d sz ph j zs) (hj : j < 256) : zs.getD j 0 = tnF d sz ph j := by
  obtain ⟨n, e, -, -, z⟩ := h.n j hj
  rw [e, z (Nat.le_refl _)]; omega
theorem Nz.set {d : Nat} {sz ph : Int} {j : Nat} {zs : List Int} (h : Nz d sz ph j zs) (hj : j < 256) (n : Int) (h1 : -(sz + 20) ≤ 20 * n) (h2 : 20 * n ≤ sz + 20) : Nz d sz ph (j + 1) (zs.set j (tnF d sz ph j + n)) := by
  refine ⟨by simp [h.l], fun i hi => ?_⟩
  by_cases e : i = j
  · subst e
    exact ⟨n, by simp [h.l, hi], h1, h2, fun h => by omega⟩
  · obtain ⟨m, a, b, c, z⟩ := h.n i hi
    refine ⟨m, ?_, b, c, fun h => z (by omega)⟩
    rw [← a]
    simp [List.getElem?_set_ne (Ne.symm e)]
theorem Nz.lv {d : Nat} {sz ph : Int} {j : Nat} {zs : List Int} (h : Nz d sz ph j zs) (hs : 0 ≤ sz) (hs2 : sz ≤ 15755) : lvB zs = true := lvB_at fun t ht => by
  rw [h.l] at ht
  obtain ⟨n, a, b, c, -⟩ := h.n t ht
  have := tnF_bd d sz ph hs t
  have e : zs.getD t 0 = zs[t] := by simp [List.getElem?_eq_getElem, h.l, ht]
  rw [← e, a]
  omega
theorem lvB_wd {zs : List Int} (h : lvB zs = true) (k : Nat) : lvB (wd zs k) = true := by
  unfold lvB wd at *
  rw [List.all_eq_true] at h ⊢
  intro z hz
  exact h z (List.mem_of_mem_drop (List.mem_of_mem_take hz))
theorem Nz.found {d : Nat} {sz ph : Int} {j : Nat} {zs : List Int} (h : Nz d sz ph j zs) (hd : d < 16) (hs : 200 ≤ sz) (hs2 : sz ≤ 15755) (k : Nat) (hk : k < 2) : dgF (wd zs k) = d := by
  have hl := h.l
  refine Go.Proofs.YtgdejlofkjdkoaaDoor.found (wd zs k) d hd sz ph ?_ (lvB_wd (h.lv (by omega) hs2) k)
  refine tn_of (wd zs k) d hd sz ph (wd_len zs k (by omega)) hs (128 * k) (by omega) (fun i => zs.getD (128 * k + i) 0 - tnF d sz ph (128 * k + i)) (fun i hi => ?_) (fun i hi => ?_)
  · obtain ⟨n, a, b, c, -⟩ := h.n (128 * k + i) (by omega)
    rw [a]
    omega
  · rw [wd_at zs k i hi]; omega
theorem Nz.told {d : Nat} {sz ph : Int} {j : Nat} {zs : List Int} (h : Nz d sz ph j zs) (hd : d < 16) (hs : 200 ≤ sz) (hs2 : sz ≤ 15755) : dsR zs = nms.extract d (d + 1) ∧ dsB zs = true := by
  have b : dsB zs = true := by unfold dsB; rw [h.lv (by omega) hs2, h.l]; decide
  refine ⟨?_, b⟩
  unfold dsR
  rw [if_pos b, h.l]
  have g0 : dgW zs 0 = d := h.found hd hs hs2 0 (by omega)
  have g1 : dgW zs 1 = d := h.found hd hs hs2 1 (by omega)
  have l0 : lsF zs 0 = -1 := rfl
  have l1 : lsF zs 1 = dgW zs 0 := rfl
  have b1 : bfF zs 1 = lsF zs 0 := rfl
  have t0 : tdB zs 0 = false := by
    unfold tdB
    rw [g0, l0]
    have : ((d : Int) == -1) = false := by rw [beq_eq_false_iff_ne]; omega
    rw [this]; simp
  have t1 : tdB zs 1 = true := by
    unfold tdB
    rw [l1, b1, g0, g1, l0]
    have h1 : decide (0 ≤ (d : Int)) = true := by simp
    have h2 : ((d : Int) != -1) = true := by rw [bne_iff_ne]; omega
    rw [h1, h2]; simp
  have e : tdL zs (256 / 128) = [] ++ [nmI d] := by
    show tdL zs 2 = _
    have e1 : tdL zs 1 = [] := by rw [tdL, t0]; rfl
    rw [tdL, t1, if_pos rfl, e1, g1, Int.toNat_natCast]
  rw [e, rb_app _ _ hd]
  rfl
set_option maxHeartbeats 6400000 in
theorem foundLaw (v : Value) (zs : List Int) (w : World) (h : Rd .u8 w v zs) (hok : ∀ z ∈ zs, 0 ≤ z ∧ z ≤ 255) (hG : RcG w) : Calls Tryd.prog 3 #[v] w fun e w' => e = .returned (.bool true) ∧ Below w.heap.size w w' := by
  have HR : Hid (Rd .u8 w v zs) := h
  have HK : Hid (∀ z ∈ zs, 0 ≤ z ∧ z ≤ 255) := hok
  have HG : Hid (RcG w) := hG
  have HB : Hid (Below w.heap.size w w) := Below.refl _ _
  obtain ⟨a, cap, rfl, h1, h2, -⟩ := h
  unfold maxLen at h2
  clear hok hG
  by_cases hl : (1048576 : Int) < (zs.length : Int)
  · have hd : decide ((1048576 : Int) < (zs.length : Int)) = true := by simp; omega
    go_enter Tryd.func3, Tryd.ntmps3
    go_wp2_with (fail)
    refine (big_c _ zs w HR.out).mono ?_
    rintro e w1 ⟨rfl, hw⟩
    rw [hw, hd]
    clear hw w1
    go_wp2
    go_ret
    exact ⟨rfl, HB.out⟩
  have hd : decide ((1048576 : Int) < (zs.length : Int)) = false := by simp; omega
  have hl' : zs.length ≤ 1048576 := by omega
  go_enter Tryd.func3, Tryd.ntmps3
  go_wp2_with (fail)
  refine (big_c _ zs w HR.out).mono ?_
  rintro e w1 ⟨rfl, hw⟩
  rw [hw, hd]
  clear hw w1 hd
  go_wp2_with (fail)
  refine (at_c _ zs 0 w HR.out HK.out (by omega) (by omega) hl').mono ?_
  rintro e w1 ⟨a0, rfl, a1, a2, hw⟩
  rw [hw]
  clear hw w1
  obtain ⟨d, hd⟩ : ∃ d : Nat, a0 % 16 = (d : Int) := Int.eq_ofNat_of_zero_le (by omega)
  have hd16 : d < 16 := by omega
  go_wp2_with (fail)
  refine (at_c _ zs 1 w HR.out HK.out (by omega) (by omega) hl').mono ?_
  rintro e w1 ⟨c0, rfl, c1, c2, hw⟩
  rw [hw]
  clear hw w1
  obtain ⟨sz, hsz⟩ : ∃ s, 200 + c0 * 61 = s := ⟨_, rfl⟩
  have hs1 : 200 ≤ sz ∧ sz ≤ 15755 := by omega
  go_wp2_with (fail)
  refine (at_c _ zs 2 w HR.out HK.out (by omega) (by omega) hl').mono ?_
  rintro e w1 ⟨ph, rfl, p1, p2, hw⟩
  rw [hw]
  clear hw w1 hsz
  have HTI : Hid (Calls Tryd.prog 10 #[.int .i64 d, .int .i64 sz, .int .i64 ph, .int .i64 256] w fun e w' => ∃ v, e = .returned (.tuple #[v, .bool true]) ∧ Ow .i64 3 w.heap.size w' v (tnL d sz ph 256) ∧ Below w.heap.size w w') := by
    have := toneI_c d sz ph 256 w HG.out
    have hb : tnB d sz ph 256 = true := by unfold tnB; simp; omega
    have hr : tnR d sz ph 256 = tnL d sz ph 256 := by unfold tnR; rw [if_pos hb]; simp
    unfold TnR at this
    rw [hb, hr] at this
    exact this
  go_wp2_with (fail)
  refine HTI.out.mono ?_
  rintro e w1 ⟨vl, rfl, o1, b1⟩
  have HO1 : Hid (Ow .i64 3 w.heap.size w1 vl (tnL d sz ph 256)) := o1
  have HB1 : Hid (Below w.heap.size w w1) := b1
  obtain ⟨al, cl, rfl, hc1, hc2, hz⟩ := own_form o1
  rw [tnL_len] at hc1 hz HO1 ⊢
  rcases hz with hz | ⟨g, rfl⟩
  · omega
  have HGG : Hid (w.heap.size ≤ g) := (World.ownsRow.lt o1 g rfl).1
  clear o1 b1 HTI
  have hcl : (256 : Int) ≤ (cl : Int) := by omega
  have HNZ : Hid (∃ ys, Nz d sz ph 0 ys ∧ Ow .i64 3 w.heap.size w1 (.slice (some ⟨g, 0, none⟩) 256 cl) ys) := ⟨_, Nz.zero d sz ph (by omega), HO1.out⟩
  clear HO1
  go_wp2
  go_loopw [7] (fun i wr => ∃ j : Nat, j ≤ 256 ∧ i = .int .i64 j ∧ Hid (∃ ys, Nz d sz ph j ys ∧ Ow .i64 3 w.heap.size wr (.slice (some ⟨g, 0, none⟩) 256 cl) ys) ∧ Hid (Below w.heap.size w wr)) (fun i _ => 256 - (intOf i).toNat)
  case atStart => exact ⟨0, Nat.zero_le _, rfl, HNZ.out, HB1.out⟩
  case round =>
    obtain ⟨j, hj, rfl, hNO, hbr⟩ := hrel
    clear HNZ HB1
    obtain ⟨ys, hN, hO⟩ := hNO.out
    have HN : Hid (Nz d sz ph j ys) := hN
    have HO : Hid (Ow .i64 3 w.heap.size wr (.slice (some ⟨g, 0, none⟩) 256 cl) ys) := hO
    have HYL : Hid (ys.length = 256) := hN.l
    clear hN hO hNO
    by_cases hlt : j < 256
    case neg =>
      obtain rfl : j = 256 := by omega
      rw [show ((256 : Nat) : Int) = 256 from rfl]
      have HRY : Hid (Rd .i64 wr (.slice (some ⟨g, 0, none⟩) 256 cl) ys) := HO.out.rd
      have hcell : ∀ i, i < ys.length → wr.cell? ⟨g, 0 + i, none⟩ = some (.int .i64 (ys.getD i 0)) := by
        obtain ⟨_, _, e, _, _, h5⟩ := HRY.out
        rw [HYL.out] at e
        cases e
        rcases h5 with h5 | ⟨b', off', e, h6⟩
        · have := HYL.out; rw [h5] at this; simp at this
        · cases e; exact h6
      have w0 := Rd.win hcell (by rw [HYL.out]; exact hc1) (by unfold maxLen; omega) 0 (by rw [HYL.out]; omega)
      have w1' := Rd.win hcell (by rw [HYL.out]; exact hc1) (by unfold maxLen; omega) 1 (by rw [HYL.out]; omega)
      simp only [Nat.mul_zero, Nat.add_zero, Nat.sub_zero, Nat.zero_add, Nat.mul_one] at w0 w1'
      have HW0 : Hid (Rd .i64 wr (.slice (some ⟨g, 0, none⟩) 128 cl) (wd ys 0)) := w0
      have HW1 : Hid (Rd .i64 wr (.slice (some ⟨g, 128, none⟩) 128 (cl - 128)) (wd ys 1)) := w1'
      have HF0 : Hid (dgF (wd ys 0) = d) := HN.out.found hd16 hs1.1 hs1.2 0 (by omega)
      have HF1 : Hid (dgF (wd ys 1) = d) := HN.out.found hd16 hs1.1 hs1.2 1 (by omega)
      have HTD : Hid (dsR ys = nms.extract d (d + 1) ∧ dsB ys = true) := HN.out.told hd16 hs1.1 hs1.2
      clear w0 w1' hcell HO HN
      go_wp2_with (fail)
      refine (digitsI_c _ ys wr HRY.out (HG.out.below hbr.out)).mono ?_
      rintro e w5 ⟨rfl, b5⟩
      have HB5 : Hid (Below wr.heap.size wr w5) := b5
      rw [HTD.out.1, HTD.out.2]
      clear b5
      have ed : ((d : Int) == (d : Int)) = true := by simp
      go_wp2_with (fail)
      refine (digitI_c _ (wd ys 0) w5 (HW0.out.below HB5.out) (HG.out.below (belowCall hbr.out HB5.out hbr.out.size))).mono ?_
      rintro e w6 ⟨rfl, b6⟩
      have HB6 : Hid (Below wr.heap.size wr w6) := belowCall HB5.out b6 HB5.out.size
      rw [HF0.out]
      clear b6
      go_wp2_with (fail)
      refine (digitI_c _ (wd ys 1) w6 (HW1.out.below HB6.out) (HG.out.below (belowCall hbr.out HB6.out hbr.out.size))).mono ?_
      rintro e w7 ⟨rfl, b7⟩
      have HB7 : Hid (Below w.heap.size w w7) := belowCall hbr.out (belowCall HB6.out b7 HB6.out.size) hbr.out.size
      rw [HF1.out]
      clear b7
      have hsl := fun W => nms_slice d hd16 W
      obtain ⟨xx, hxx⟩ : ∃ x, nms.extract d (d + 1) = x := ⟨_, rfl⟩
      simp only [hxx] at hsl
      rw [hxx]
      clear hxx
      go_wp2
      go_ret
      exact ⟨rfl, HB7.out⟩
    case pos =>
    have oo := HO.out
    unfold Ow at oo
    rw [HYL.out] at oo
    have hcj : wr.cell? ⟨g, j, none⟩ = some (.int .i64 (tnF d sz ph j)) := by
      rw [oo.cellAt j (by omega), List.getElem?_map, List.getElem?_eq_getElem (by rw [HYL.out]; exact hlt)]
      have := HN.out.at hlt
      rw [List.getD_eq_getElem?_getD, List.getElem?_eq_getElem (by rw [HYL.out]; exact hlt)] at this
      simpa using this
    have hfj := oo.frozenAt j
    have htb := tnF_bd d sz ph (by omega) j
    have HSTO : Hid (∀ n : Int, -(sz + 20) ≤ 20 * n → 20 * n ≤ sz + 20 → (∃ ys, Nz d sz ph (j + 1) ys ∧ Ow .i64 3 w.heap.size (wr.drew.setCell ⟨g, j, none⟩ (.int .i64 (tnF d sz ph j + n))) (.slice (some ⟨g, 0, none⟩) 256 cl) ys)) := fun n n1 n2 => by
      refine ⟨_, HN.out.set hlt n n1 n2, ?_⟩
      have od : wr.drew.ownsRow w.heap.size 3 1 (.slice (some ⟨g, 0, none⟩) 256 cl) 256 (ys.map (Value.int .i64)) := World.ownsRow.kept (row := none) oo ⟨rfl, rfl, rfl, Nat.le_refl _, fun _ _ _ => rfl⟩ (.inr (by simp [Value.ownBlock]))
      have := (od.stored j (.int .i64 (tnF d sz ph j + n))).1
      rw [← List.map_set] at this
      unfold Ow
      rw [List.length_set, HYL.out]
      exact this
    have HBS : Hid (∀ x, Below w.heap.size w (wr.drew.setCell ⟨g, j, none⟩ x)) := fun x => hbr.out.drew.setCell (by dsimp only; exact HGG.out) _
    obtain ⟨T, hT⟩ : ∃ T, tnF d sz ph j = T := ⟨_, rfl⟩
    rw [hT] at hcj htb HSTO
    have hi1 : (0 : Int) ≤ (j : Int) := by omega
    have hi2 : (j : Int) < 256 := by omega
    obtain ⟨S, hS⟩ : ∃ S : World → Prop, ∀ W, S W ↔ W = wr.drew := ⟨_, fun _ => Iff.rfl⟩
    have y0 : ∀ W : At S, W.wd.cell? ⟨g, j, none⟩ = some (.int .i64 T) := fun W => by rw [(hS _).1 W.ok]; exact hcj
    have HS : Hid (S wr.drew) := (hS _).2 rfl
    have ne : Nonempty (At S) := ⟨⟨_, HS.out⟩⟩
    have HRW : Hid (Rd .u8 wr.drew (.slice a zs.length cap) zs) := HR.out.below hbr.out.drew
    clear hS oo hT
    go_wp2
    refine region_mixT [true, true, true, true, true, true, true, true, true, false, false, true, true, false, true, true, true, false, false, true, true, false, false, false] 22 6 S (by kernel_rfl) rfl (by kernel_rfl) (fun _ _ _ _ _ h => h) HS.out ?_
    simp only [selT, selF]
    try simp only [Act.put]
    repeat (go_big_quiet_step (fail))
    refine wpQuiet_nil ?_
    refine tail_step ?_
    go_wp2_with (fail)
    refine (at_c _ zs (j + 3) wr.drew HRW.out HK.out (by omega) (by omega) hl').mono ?_
    rintro e w4 ⟨x, rfl, x1, x2, hw⟩
    rw [hw]
    clear hw w4 y0 ne
    go_wp2
    refine ⟨HS.out, tail_step ?_⟩
    go_wp2
    refine ⟨HS.out, tail_step ?_⟩
    go_wp2
    refine ⟨HS.out, tail_step ?_⟩
    have hmz : ¬ (sz / 10 + 1 = 0) := by omega
    obtain ⟨nu, hnu⟩ : ∃ n, x * 31 + (j : Int) * 17 = n := ⟨_, rfl⟩
    have hnu1 : 0 ≤ nu := by omega
    have hrem : nu.tmod (sz / 10 + 1) = nu % (sz / 10 + 1) := Int.tmod_eq_emod_of_nonneg hnu1
    have hr1 : 0 ≤ nu % (sz / 10 + 1) := Int.emod_nonneg _ hmz
    have hr2 : nu % (sz / 10 + 1) < sz / 10 + 1 := Int.emod_lt_of_pos _ (by omega)
    obtain ⟨rm, hrm⟩ : ∃ n, nu % (sz / 10 + 1) = n := ⟨_, rfl⟩
    rw [hrm] at hrem hr1 hr2
    have hsf := HSTO.out (rm - sz / 20) (by omega) (by omega)
    rw [show T + (rm - sz / 20) = T + rm - sz / 20 by omega] at hsf
    have HSF : Hid (∃ ys, Nz d sz ph (j + 1) ys ∧ Ow .i64 3 w.heap.size (wr.drew.setCell ⟨g, j, none⟩ (.int .i64 (T + rm - sz / 20))) (.slice (some ⟨g, 0, none⟩) 256 cl) ys) := hsf
    clear hsf HSTO
    go_wp2
    refine ⟨HS.out, tail_step ?_⟩
    go_wp2
    refine ⟨HS.out, tail_step ?_⟩
    go_wp2
    refine ⟨HS.out, tail_end ?_⟩
    go_wp2
    go_roundw
    case rel => exact ⟨j + 1, by omega, by go_num, HSF.out, HBS.out _⟩
    case measure => simp [intOf]; omega

end Go.Proofs.YtgdejlofkjdkoaaDoor
