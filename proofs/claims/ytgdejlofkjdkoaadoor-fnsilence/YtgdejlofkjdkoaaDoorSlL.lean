/- FnSilence, walked; the two tables are as they were laid. -/
import Derived.Test.YtgdejlofkjdkoaaDoorSle
import Derived.Test.YtgdejlofkjdkoaaDoorSla
import Derived.Test.YtgdejlofkjdkoaaDoorPwr
import Derived.Test.YtgdejlofkjdkoaaDoorWve
import Derived.Test.YtgdejlofkjdkoaaDoorDgd
import Derived.Test.YtgdejlofkjdkoaaDoorDmd
namespace Go.Proofs.YtgdejlofkjdkoaaDoor
open Go.RowKit Go.ChangeShapes Go.WideShapes Go.ChangeAt
set_option linter.unusedVariables false
set_option linter.unusedSimpArgs false
set_option maxRecDepth 8000

set_option maxHeartbeats 6400000 in
theorem silenceLaw (v : Value) (zs : List Int) (w : World) (h : Rd .u8 w v zs) (hok : ∀ z ∈ zs, 0 ≤ z ∧ z ≤ 255) (hG : RcG w) : Calls Tryd.prog 4 #[v] w fun e w' => e = .returned (.bool true) ∧ Below w.heap.size w w' := by
  have HR : Hid (Rd .u8 w v zs) := h
  have HK : Hid (∀ z ∈ zs, 0 ≤ z ∧ z ≤ 255) := hok
  have HG : Hid (RcG w) := hG
  have HB : Hid (Below w.heap.size w w) := Below.refl _ _
  obtain ⟨a, cap, rfl, h1, h2, -⟩ := h
  unfold maxLen at h2
  clear hok hG
  by_cases hl : (1048576 : Int) < (zs.length : Int)
  · have hd : decide ((1048576 : Int) < (zs.length : Int)) = true := by simp; omega
    go_enter Tryd.func4, Tryd.ntmps4
    go_wp2_with (fail)
    refine (big_c _ zs w HR.out).mono ?_
    rintro e w1 ⟨rfl, hw⟩
    rw [hw, hd]
    clear hw w1
    go_wp2
    go_ret
    exact ⟨rfl, HB.out⟩
  have hd : decide ((1048576 : Int) < (zs.length : Int)) = false := by simp; omega
  have hl' : zs.length ≤ 1048576 := by omega
  have hph : 0 ≤ zs.getD 0 0 ∧ zs.getD 0 0 ≤ 255 := by
    by_cases h0 : 0 < zs.length
    · have := HK.out _ (List.getElem_mem h0)
      simpa [List.getElem?_eq_getElem h0] using this
    · obtain rfl : zs = [] := List.eq_nil_of_length_eq_zero (by omega)
      simp
  obtain ⟨ph, hphe⟩ : ∃ p, zs.getD 0 0 = p := ⟨_, rfl⟩
  have HAT : Hid (∀ W, Below w.heap.size w W → Calls Tryd.prog 9 #[.slice a zs.length cap, .int .i64 0] W fun e w' => e = .returned (.int .i64 ph) ∧ w' = W) := fun W hW => by
    have := at0_c _ zs W (HR.out.below hW) HK.out hl'
    rw [hphe] at this
    exact this
  rw [hphe] at hph
  clear hphe
  go_enter Tryd.func4, Tryd.ntmps4
  go_wp2_with (fail)
  refine (big_c _ zs w HR.out).mono ?_
  rintro e w1 ⟨rfl, hw⟩
  rw [hw, hd]
  clear hw w1 hd
  go_wp2_with (fail)
  refine (drawD_c _ zs w HR.out HK.out hl').mono ?_
  rintro e w1 ⟨vl, ys, rfl, o1, b1⟩
  have HY1 : Hid (Rd .i64 w1 vl ys) := o1.rd
  have HB1 : Hid (Below w.heap.size w w1) := b1
  clear o1 b1
  go_wp2_with (fail)
  refine (digitI_c vl ys w1 HY1.out (HG.out.below HB1.out)).mono ?_
  rintro e w2 ⟨rfl, b2⟩
  have HY2 : Hid (Rd .i64 w2 vl ys) := HY1.out.below b2
  have HB2 : Hid (Below w.heap.size w w2) := belowCall HB1.out b2 HB1.out.size
  clear b2 HY1
  go_wp2_with (fail)
  refine (digitM_c vl ys w2 HY2.out).mono ?_
  rintro e w3 ⟨rfl, b3⟩
  have HY3 : Hid (Rd .i64 w3 vl ys) := HY2.out.below b3
  have HB3 : Hid (Below w.heap.size w w3) := belowCall HB2.out b3 HB2.out.size
  clear b3 HY2
  have hdb := dgF_bd ys
  obtain ⟨d, hdd⟩ : ∃ d, dgF ys = d := ⟨_, rfl⟩
  have HDD : Hid (dgF ys = d) := hdd
  rw [hdd] at hdb ⊢
  clear hdd
  have e0 : (d != d) = false := by simp
  obtain ⟨i0, hi, hz0, hz1, hz2⟩ := info_parts toIInfo
  obtain ⟨w4, hmk, ho, hg⟩ := run_make_full (P := Tryd.prog) w3 w3.heap.size 25 3 i0 (.int .i64 0) 1 Tryd.underlying25 hi hz0 hz1 .i64 .i64 128 (by rw [hz2]; omega) (by unfold maxLen; omega) (Nat.le_refl _)
  rw [show ((128 : Nat) : Int) = 128 from rfl] at hmk
  have hx : (madeCells (Value.int .i64 0).cells (128 * 1)).toList = (List.replicate 128 0).map (Value.int .i64) := by
    show (madeCells #[Value.int .i64 0] 128).toList = _
    rw [toList_madeCells_one]; simp
  rw [hx] at ho
  have b4 : Below w3.heap.size w3 w4 := grown_below hg (Nat.le_refl _) (by simp)
  have HZ4 : Hid (Rd .i64 w4 (.slice (some ⟨w3.heap.size, 0, none⟩) 128 128) (List.replicate 128 0)) := Ow.rd (k := .i64) (e := 3) (base := w3.heap.size) (by unfold Ow; rw [List.length_replicate]; exact ho)
  have HY4 : Hid (Rd .i64 w4 vl ys) := HY3.out.below b4
  have HB4 : Hid (Below w.heap.size w w4) := belowCall HB3.out b4 HB3.out.size
  obtain ⟨g3, hg3⟩ : ∃ g, w3.heap.size = g := ⟨_, rfl⟩
  rw [hg3] at HZ4 hmk
  clear hx hg ho b4 HY3 hg3
  go_wp2_with (fail)
  refine (digitI_c _ _ w4 HZ4.out (HG.out.below HB4.out)).mono ?_
  clear hmk
  rintro e w5 ⟨rfl, b5⟩
  have HY5 : Hid (Rd .i64 w5 vl ys) := HY4.out.below b5
  have HB5 : Hid (Below w.heap.size w w5) := belowCall HB4.out b5 HB4.out.size
  rw [quiet_no]
  clear b5 HY4 HZ4
  go_wp2_with (fail)
  refine (HAT.out w5 HB5.out).mono ?_
  rintro e w6 ⟨rfl, hw⟩
  rw [hw]
  clear hw w6
  have HTI : Hid (∀ W, RcG W → Calls Tryd.prog 10 #[.int .i64 6, .int .i64 900, .int .i64 ph, .int .i64 128] W fun e w' => ∃ v, e = .returned (.tuple #[v, .bool true]) ∧ Ow .i64 3 W.heap.size w' v (tnL 6 900 ph 128) ∧ Below W.heap.size W w') := fun W hW => by
    have := toneI_c 6 900 ph 128 W hW
    have hb : tnB 6 900 ph 128 = true := by unfold tnB; simp; omega
    have hr : tnR 6 900 ph 128 = tnL 6 900 ph 128 := by unfold tnR; rw [if_pos hb]; rfl
    unfold TnR at this
    rw [hb, hr] at this
    exact this
  go_wp2_with (fail)
  refine (HTI.out w5 (HG.out.below HB5.out)).mono ?_
  rintro e w6 ⟨vt, rfl, o6, b6⟩
  have HT6 : Hid (Rd .i64 w6 vt (tnL 6 900 ph 128)) := o6.rd
  have HY6 : Hid (Rd .i64 w6 vl ys) := HY5.out.below b6
  have HB6 : Hid (Below w.heap.size w w6) := belowCall HB5.out b6 HB5.out.size
  clear b6 HY5 o6 HTI
  go_wp2_with (fail)
  refine (digitI_c vt _ w6 HT6.out (HG.out.below HB6.out)).mono ?_
  rintro e w7 ⟨rfl, b7⟩
  have HY7 : Hid (Rd .i64 w7 vl ys) := HY6.out.below b7
  have HB7 : Hid (Below w.heap.size w w7) := belowCall HB6.out b7 HB6.out.size
  rw [tone_6]
  clear b7 HY6 HT6
  have HO7 : Hid (Ow .i64 3 w7.heap.size (w7.alloc (Obj.cells #[] 3)) (.slice (some ⟨w7.heap.size, 0, none⟩) 0 0) (alL ph 0)) := Ow.empty _ _ _ _ (Nat.le_refl _)
  have HBA : Hid (Below w7.heap.size w7 (w7.alloc (Obj.cells #[] 3))) := (Below.refl _ _).alloc (Nat.le_refl _) _
  go_wp2
  go_loopw [7, 8] (fun u i wr => ∃ (j : Nat) (vv : Value), j ≤ 128 ∧ i = .int .i64 j ∧ vv = u ∧ Hid (Ow .i64 3 w7.heap.size wr vv (alL ph j)) ∧ Hid (Below w7.heap.size w7 wr)) (fun _ i _ => 128 - (intOf i).toNat)
  case atStart => exact ⟨0, _, Nat.zero_le _, rfl, rfl, HO7.out, HBA.out⟩
  case round =>
    obtain ⟨j, vv, hj, rfl, rfl, hO, hbb⟩ := hrel
    clear HO7 HBA
    have hbr : Hid (Below w.heap.size w wr) := belowCall HB7.out hbb.out HB7.out.size
    by_cases hlt : j < 128
    case pos =>
      have HSU : Hid (alL ph (j + 1) = alL ph j ++ [alF ph j]) := alL_succ _ _
      have HLN : Hid ((alL ph j).length = j) := alL_len _ _
      go_wp2_with (fail)
      refine (HAT.out wr hbr.out).mono ?_
      rintro e w8 ⟨rfl, hw⟩
      rw [hw]
      clear hw w8
      have hAF : (wave (((j : Int) + ph) * 14)).tdiv 1048576 = alF ph j := rfl
      obtain ⟨s, hs⟩ : ∃ s, ((j : Int) + ph) * 14 = s := ⟨_, rfl⟩
      have hsb : 0 ≤ s ∧ s ≤ 100000 := by omega
      rw [hs] at hAF
      go_wp2_with (fail)
      refine (waveI_c s (by omega) (by omega) wr).mono ?_
      rintro e w8 ⟨rfl, b8⟩
      have HO8 : Hid (Ow .i64 3 w7.heap.size w8 vv (alL ph j)) := hO.out.below b8
      have HB8 : Hid (Below w7.heap.size w7 w8) := belowCall hbb.out b8 hbb.out.size
      obtain ⟨x, hx⟩ : ∃ x, wave s = x := ⟨_, rfl⟩
      rw [hx] at hAF ⊢
      obtain ⟨z, hz⟩ : ∃ z, alF ph j = z := ⟨_, rfl⟩
      have hzb := (alF_bd ph j).2
      rw [hz] at hAF HSU hzb
      have HOA : Hid (Ow .i64 3 w7.heap.size (w8.alloc (Obj.cells #[.int .i64 z] 3)) vv (alL ph j)) := HO8.out.alloc _
      have HBB : Hid (Below w7.heap.size w7 (w8.alloc (Obj.cells #[.int .i64 z] 3))) := HB8.out.alloc HB8.out.size _
      clear b8 hx hz hs
      go_wp2_with (at_builtin; refine appI rfl (.tmp 46) (.tmp 54) rfl w7.heap.size _ (alL ph j) rfl HOA.out w8.heap.size z rfl (by simp) (by have := HLN.out; omega) HBB.out.size ?_)
      intro v9 w9 ho hb
      have HO9 : Hid (Ow .i64 3 w7.heap.size w9 v9 (alL ph (j + 1))) := by rw [HSU.out]; exact ho
      have HB9 : Hid (Below w7.heap.size w7 w9) := HBB.out.trans hb
      clear ho hb
      go_wp2
      go_roundw
      case rel => exact ⟨j + 1, _, by omega, by go_num, rfl, HO9.out, HB9.out⟩
      case measure => simp [intOf]; omega
    case neg =>
    obtain rfl : j = 128 := by omega
    rw [show ((128 : Nat) : Int) = 128 from rfl]
    have HY8 : Hid (Rd .i64 wr vl ys) := HY7.out.below hbb.out
    have HA8 : Hid (Rd .i64 wr vv (alL ph 128)) := hO.out.rd
    clear hO hbb HY7 HB7
    go_wp2_with (fail)
    refine (digitI_c vv _ wr HA8.out (HG.out.below hbr.out)).mono ?_
    rintro e w8 ⟨rfl, b8⟩
    have HY9 : Hid (Rd .i64 w8 vl ys) := HY8.out.below b8
    have HB8 : Hid (Below w.heap.size w w8) := belowCall hbr.out b8 hbr.out.size
    rw [alone_no]
    clear b8 HY8 HA8 hbr
    by_cases hd0 : d < 0
    · have e1 : decide (d < 0) = true := by simp; omega
      go_wp2
      go_ret
      exact ⟨rfl, HB8.out⟩
    have e1 : decide (d < 0) = false := by simp; omega
    obtain ⟨n, rfl⟩ := Int.eq_ofNat_of_zero_le (show 0 ≤ d by omega)
    have hn15 : n ≤ 15 := by omega
    have hk1 : (n : Int) / 4 = ((n / 4 : Nat) : Int) := by omega
    have hk2 : (n : Int) % 4 = ((n % 4 : Nat) : Int) := by omega
    have hp := dg_pos HDD.out
    have HP : Hid (∀ st : Int, 0 ≤ st ∧ st ≤ 255 → pwB ys st = true ∧ pwR ys st = pw ys st) := fun st hst => by
      have hb : pwB ys st = true := by unfold pwB; rw [hp.1.1, hp.1.2]; simp; omega
      exact ⟨hb, by unfold pwR; rw [if_pos hb]⟩
    have P1 := hp.2.1
    have P2 := hp.2.2
    obtain ⟨k4, hk4⟩ : ∃ q, n / 4 = q := ⟨_, rfl⟩
    obtain ⟨kr, hkr⟩ : ∃ q, n % 4 = q := ⟨_, rfl⟩
    have hq1 : k4 ≤ 3 := by omega
    have hq2 : kr ≤ 3 := by omega
    rw [hk4] at hk1 P1
    rw [hkr] at hk2 P2
    obtain ⟨s1, hs1⟩ : ∃ s : Int, 12 + 2 * (k4 : Int) = s := ⟨_, rfl⟩
    obtain ⟨s2, hs2⟩ : ∃ s : Int, 22 + 4 * (kr : Int) = s := ⟨_, rfl⟩
    have hb1 : 0 ≤ s1 ∧ s1 ≤ 255 := by omega
    have hb2 : 0 ≤ s2 ∧ s2 ≤ 255 := by omega
    rw [hs1] at P1
    rw [hs2] at P2
    clear hp hk4 hkr hdb e0
    go_wp2_with (fail)
    refine (powerI_c vl ys s1 w8 HY9.out).mono ?_
    rintro e w9 ⟨rfl, b9⟩
    have HY10 : Hid (Rd .i64 w9 vl ys) := HY9.out.below b9
    have HB9 : Hid (Below w.heap.size w w9) := belowCall HB8.out b9 HB8.out.size
    rw [(HP.out s1 hb1).1, (HP.out s1 hb1).2]
    clear b9 HY9
    obtain ⟨p1, hp1⟩ : ∃ p, pw ys s1 = p := ⟨_, rfl⟩
    rw [hp1] at P1 ⊢
    go_wp2_with (fail)
    refine (powerI_c vl ys s2 w9 HY10.out).mono ?_
    rintro e w10 ⟨rfl, b10⟩
    have HB10 : Hid (Below w.heap.size w w10) := belowCall HB9.out b10 HB9.out.size
    rw [(HP.out s2 hb2).1, (HP.out s2 hb2).2]
    obtain ⟨p2, hp2⟩ : ∃ p, pw ys s2 = p := ⟨_, rfl⟩
    rw [hp2] at P2 ⊢
    clear b10 hp1 hp2
    have t1 : decide (1000000 ≤ p1) = true := by simp; exact P1
    have t2 : decide (1000000 ≤ p2) = true := by simp; exact P2
    go_wp2
    go_ret
    exact ⟨rfl, HB10.out⟩

end Go.Proofs.YtgdejlofkjdkoaaDoor
