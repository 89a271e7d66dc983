/- FnStirred15; no condition. -/
import Derived.Test.YtkgpnpgbadipjaaSti
import Derived.Test.YtkgpnpgbadipjaaStm
import Derived.Test.YtkgpnpgbadipjaaStb
import Derived.Test.YtkgpnpgbadipjaaDrs
import Derived.Test.YtkgpnpgbadipjaaSmi
import Derived.Test.YtkgpnpgbadipjaaWvi
import Derived.Test.YtkgpnpgbadipjaaWvm
namespace Go.Proofs.Ytkgpnpgbadipjaa
open Go.RowKit Go.ChangeShapes Go.WideShapes Go.ChangeAt
set_option linter.unusedVariables false
set_option linter.unusedSimpArgs false
set_option maxRecDepth 8000

theorem wrap_nat (p : Nat) (h : p < 65536) : wrap64 (p : Int) = (p : Int) := wrap64_in (by omega)
theorem xo_key (key : Int) (p : Nat) (h : 1 ≤ key ∧ key ≤ 65535) (hp : p < 65536) : 0 ≤ xo key (p : Int) ∧ xo key (p : Int) ≤ 65535 := xo_bd _ _ (by omega) h.2 (by omega) (by omega)
set_option maxHeartbeats 25600000 in
theorem stirredLaw (v : Value) (zs : List Int) (w : World) (h : Rd .u8 w v zs) (hok : ∀ z ∈ zs, (Lit.int .u8 z).wf = true) : Calls Try.prog 3 #[v] w fun e w' => e = .returned (.bool true) ∧ Below w.heap.size w w' := by
  have HK : Hid (∀ z ∈ zs, 0 ≤ z ∧ z ≤ 255) := fun z hz => bounds_u8 (hok z hz)
  have HR : Hid (Rd .u8 w v zs) := h
  have HB : Hid (Below w.heap.size w w) := Below.refl _ _
  clear h hok
  go_enter Try.func3, Try.ntmps3
  go_wp2_with (fail)
  refine (big_c v zs w HR.out).mono ?_
  rintro e w1 ⟨rfl, hw⟩
  rw [hw]
  clear hw w1
  by_cases hl : (1048576 : Int) < (zs.length : Int)
  · rw [decide_eq_true hl]
    go_wp2
    go_ret
    exact ⟨rfl, HB.out⟩
  rw [decide_eq_false hl]
  have HL : Hid (zs.length ≤ 1048576) := by show _ ≤ _; omega
  clear hl
  go_wp2_with (fail)
  refine (drawStir_c v zs w HR.out HK.out (by have := HL.out; omega)).mono ?_
  rintro e w1 ⟨vb, bs, key, rfl, r1, l1, b1⟩
  have HB1 : Hid (Below w.heap.size w w1) := b1
  have HR1 : Hid (Rd .i64 w1 vb bs) := r1
  have HLB : Hid (bs.length ≤ 600) := l1
  clear b1 r1 l1 HB
  go_wp2_with (fail)
  refine (stirI_c vb bs key _ HR1.out).mono ?_
  rintro e w2 ⟨vs, rfl, o2, b2⟩
  have HB2 : Hid (Below w.heap.size w w2) := belowCall HB1.out b2 HB1.out.size
  have HR2 : Hid (Rd .i64 w2 vb bs) := HR1.out.below b2
  have HS2 : Hid (Rd .i64 w2 vs (stR bs key)) := o2.rd
  clear o2 b2 HB1 HR1
  go_wp2_with (fail)
  refine (stirM_c vb bs key _ HR2.out).mono ?_
  rintro e w3 ⟨vm, rfl, -, b3⟩
  have HB3 : Hid (Below w.heap.size w w3) := belowCall HB2.out b3 HB2.out.size
  have HR3 : Hid (Rd .i64 w3 vb bs) := HR2.out.below b3
  have HS3 : Hid (Rd .i64 w3 vs (stR bs key)) := HS2.out.below b3
  clear b3 HB2 HR2 HS2
  obtain ⟨ok, hok⟩ : ∃ ok, stB bs key = ok := ⟨_, rfl⟩
  have HOK : Hid (stB bs key = ok) := hok
  rw [hok]
  have hne : (ok != ok) = false := by simp
  clear hok
  obtain ⟨W4, hW4⟩ : ∃ W, w3.alloc (Obj.cells #[.int .i64 0, .int .i64 0, .int .i64 0] 3) = W := ⟨_, rfl⟩
  have HW4 : Hid (w3.alloc (Obj.cells #[.int .i64 0, .int .i64 0, .int .i64 0] 3) = W4) := hW4
  have ba : Below w3.heap.size w3 W4 := by rw [← hW4]; exact (Below.refl _ _).alloc (Nat.le_refl _) _
  have HZ4 : Hid (Rd .i64 W4 (.slice (some ⟨w3.heap.size, 0, none⟩) 3 3) [0, 0, 0]) := by rw [← hW4]; exact Rd.lit w3 [0, 0, 0] (by decide)
  have HB4 : Hid (Below w.heap.size w W4) := belowCall HB3.out ba HB3.out.size
  have HR4 : Hid (Rd .i64 W4 vb bs) := HR3.out.below ba
  have HS4 : Hid (Rd .i64 W4 vs (stR bs key)) := HS3.out.below ba
  clear hW4 ba HB3 HR3 HS3
  go_wp2_with (fail)
  rw [HW4.out]
  refine (stirI_c _ [0, 0, 0] 5 _ HZ4.out).mono ?_
  rintro e w5 ⟨v5, rfl, o5, b5⟩
  rw [five_ok.1]
  have HF5 : Hid (Rd .i64 w5 v5 [1, 0, 1]) := by have := o5.rd; rw [five_ok.2] at this; exact this
  have HB5 : Hid (Below w.heap.size w w5) := belowCall HB4.out b5 HB4.out.size
  have HR5 : Hid (Rd .i64 w5 vb bs) := HR4.out.below b5
  have HS5 : Hid (Rd .i64 w5 vs (stR bs key)) := HS4.out.below b5
  clear o5 b5 HB4 HR4 HS4 HW4 HZ4
  obtain ⟨W6, hW6⟩ : ∃ W, w5.alloc (Obj.cells #[.int .i64 1, .int .i64 0, .int .i64 1] 3) = W := ⟨_, rfl⟩
  have HW6 : Hid (w5.alloc (Obj.cells #[.int .i64 1, .int .i64 0, .int .i64 1] 3) = W6) := hW6
  have ba : Below w5.heap.size w5 W6 := by rw [← hW6]; exact (Below.refl _ _).alloc (Nat.le_refl _) _
  have HZ6 : Hid (Rd .i64 W6 (.slice (some ⟨w5.heap.size, 0, none⟩) 3 3) [1, 0, 1]) := by rw [← hW6]; exact Rd.lit w5 [1, 0, 1] (by decide)
  have HF6 : Hid (Rd .i64 W6 v5 [1, 0, 1]) := HF5.out.below ba
  have HB6 : Hid (Below w.heap.size w W6) := belowCall HB5.out ba HB5.out.size
  have HR6 : Hid (Rd .i64 W6 vb bs) := HR5.out.below ba
  have HS6 : Hid (Rd .i64 W6 vs (stR bs key)) := HS5.out.below ba
  clear hW6 ba HB5 HR5 HS5 HF5
  go_wp2_with (fail)
  rw [HW6.out]
  refine (sameI v5 _ [1, 0, 1] [1, 0, 1] _ HF6.out HZ6.out).mono ?_
  rintro e w7 ⟨rfl, b7⟩
  rw [decide_eq_true (show ([1, 0, 1] : List Int) = [1, 0, 1] from rfl)]
  have HB7 : Hid (Below w.heap.size w w7) := belowCall HB6.out b7 HB6.out.size
  have HR7 : Hid (Rd .i64 w7 vb bs) := HR6.out.below b7
  have HS7 : Hid (Rd .i64 w7 vs (stR bs key)) := HS6.out.below b7
  clear b7 HB6 HR6 HS6 HF6 HZ6 HW6
  have key2 : ∀ q : World, True := fun _ => trivial
  clear key2
  cases ok
  case false =>
    clear HR7 HS7 HOK HLB hne
    go_wp2_with (fail)
    refine (drawWeave_c v zs _ (HR.out.below HB7.out) HK.out (by have := HL.out; omega)).mono ?_
    rintro e wa ⟨vl, ls, rows, rfl, ra, la, ba⟩
    have HBa : Hid (Below w.heap.size w wa) := belowCall HB7.out ba HB7.out.size
    have HRa : Hid (Rd .i64 wa vl ls) := ra
    clear ba ra la HB7
    go_wp2_with (fail)
    refine (weaveI_c vl ls rows _ HRa.out).mono ?_
    rintro e wb ⟨vw, rfl, ob, bb⟩
    have HBb : Hid (Below w.heap.size w wb) := belowCall HBa.out bb HBa.out.size
    have HRb : Hid (Rd .i64 wb vl ls) := HRa.out.below bb
    have HWb : Hid (Rd .i64 wb vw (wvR ls rows)) := ob.rd
    clear ob bb HBa HRa
    go_wp2_with (fail)
    refine (weaveM_c vl ls rows _ HRb.out).mono ?_
    rintro e wc ⟨vx, rfl, -, bc⟩
    have HBc : Hid (Below w.heap.size w wc) := belowCall HBb.out bc HBb.out.size
    have HRc : Hid (Rd .i64 wc vl ls) := HRb.out.below bc
    have HWc : Hid (Rd .i64 wc vw (wvR ls rows)) := HWb.out.below bc
    clear bc HBb HRb HWb
    obtain ⟨wo, hwo⟩ : ∃ ok, wvB ls rows = ok := ⟨_, rfl⟩
    have HWO : Hid (wvB ls rows = wo) := hwo
    rw [hwo]
    have hne2 : (wo != wo) = false := by simp
    clear hwo
    go_wp2_with (fail)
    refine (unweaveI_c vw (wvR ls rows) rows _ HWc.out).mono ?_
    rintro e wd ⟨vy, rfl, od, bd⟩
    have HBd : Hid (Below w.heap.size w wd) := belowCall HBc.out bd HBc.out.size
    have HRd : Hid (Rd .i64 wd vl ls) := HRc.out.below bd
    have HYd : Hid (Rd .i64 wd vy (uwR (wvR ls rows) rows)) := od.rd
    clear od bd HBc HRc HWc
    cases wo with
    | false =>
      go_wp2
      go_ret
      exact ⟨rfl, HBd.out⟩
    | true =>
      have HYe : Hid (Rd .i64 wd vy ls) := by have := HYd.out; rw [(weave_back HWO.out).2] at this; exact this
      rw [(weave_back HWO.out).1]
      clear HYd
      go_wp2_with (fail)
      refine (sameI vy vl ls ls _ HYe.out HRd.out).mono ?_
      rintro e we ⟨rfl, be⟩
      rw [decide_eq_true (show ls = ls from rfl)]
      have HBe : Hid (Below w.heap.size w we) := belowCall HBd.out be HBd.out.size
      clear be
      go_wp2
      go_ret
      exact ⟨rfl, HBe.out⟩
  case true =>
    have hst := HOK.out
    unfold stB at hst
    rw [Bool.and_eq_true, decide_eq_true_eq] at hst
    have HKB : Hid (1 ≤ key ∧ key ≤ 65535) := hst.2
    have HBB : Hid (bbB bs = true) := hst.1
    have HSF : Hid (stR bs key = stF bs key) := stR_yes HOK.out
    have HS8 : Hid (Rd .i64 w7 vs (stF bs key)) := by have := HS7.out; rw [HSF.out] at this; exact this
    have HST : Hid (∀ k : Int, stB (stF bs key) k = decide (1 ≤ k ∧ k ≤ 65535)) := fun k => by unfold stB; rw [stF_bb HBB.out, Bool.true_and]
    clear hst HS7 HSF
    go_wp2_with (fail)
    refine (stirI_c vs (stF bs key) key _ HS8.out).mono ?_
    rintro e w8 ⟨v8, rfl, o8, b8⟩
    rw [HST.out key, decide_eq_true HKB.out]
    have HF8 : Hid (Rd .i64 w8 v8 bs) := by
      have := o8.rd
      rw [stR_yes (by rw [HST.out key]; exact decide_eq_true HKB.out), stF_back (bbB_bs HBB.out)] at this
      exact this
    have HB8 : Hid (Below w.heap.size w w8) := belowCall HB7.out b8 HB7.out.size
    have HR8 : Hid (Rd .i64 w8 vb bs) := HR7.out.below b8
    have HS9 : Hid (Rd .i64 w8 vs (stF bs key)) := HS8.out.below b8
    clear o8 b8 HB7 HR7 HS8
    go_wp2_with (fail)
    refine (sameI v8 vb bs bs _ HF8.out HR8.out).mono ?_
    rintro e w9 ⟨rfl, b9⟩
    rw [decide_eq_true (show bs = bs from rfl)]
    have HB9 : Hid (Below w.heap.size w w9) := belowCall HB8.out b9 HB8.out.size
    have HR9 : Hid (Rd .i64 w9 vb bs) := HR8.out.below b9
    have HS10 : Hid (Rd .i64 w9 vs (stF bs key)) := HS9.out.below b9
    clear b9 HB8 HR8 HS9 HF8
    go_wp2_with (fail)
    refine (at_c v zs 0 _ (HR.out.below HB9.out) HK.out (by omega) (by omega) HL.out).mono ?_
    rintro e w10 ⟨x, rfl, x0, x1, hw⟩
    rw [hw]
    clear hw w10
    obtain ⟨m, hm⟩ : ∃ m : Nat, x % 16 = (m : Int) := ⟨(x % 16).toNat, by omega⟩
    have hm16 : m < 16 := by omega
    have hmt : x.tmod 16 = (m : Int) := by rw [Int.tmod_eq_emod_of_nonneg x0]; exact hm
    obtain ⟨oth, hoth⟩ : ∃ q, bits .xor .i64 key (wrap64 (2 ^ m)) = q := ⟨_, rfl⟩
    have HOT : Hid (oth = xo key ((2 ^ m : Nat) : Int)) := by
      show _ = _
      have hp : 2 ^ m < 65536 := by have := Nat.pow_lt_pow_right (show 1 < 2 by omega) hm16; simpa using this
      have e : wrap64 (2 ^ m) = ((2 ^ m : Nat) : Int) := by
        have e1 : ((2 : Int) ^ m) = ((2 ^ m : Nat) : Int) := by rw [Int.natCast_pow]; rfl
        rw [e1]
        exact wrap_nat _ hp
      rw [← hoth, e]; rfl
    have HOB : Hid (0 ≤ oth ∧ oth ≤ 65535) := by
      have hp : 2 ^ m < 65536 := by have := Nat.pow_lt_pow_right (show 1 < 2 by omega) hm16; simpa using this
      show _ ∧ _
      rw [HOT.out]
      exact xo_key key _ HKB.out hp
    have HM : Hid (m < 16) := hm16
    have HOH : Hid (bits .xor .i64 key (wrap64 (2 ^ m)) = oth) := hoth
    clear hoth
    go_wp2_with (fail)
    rw [HOH.out]
    refine (stirI_c vs (stF bs key) oth _ HS10.out).mono ?_
    rintro e w11 ⟨v11, rfl, o11, b11⟩
    rw [HST.out oth]
    have HB11 : Hid (Below w.heap.size w w11) := belowCall HB9.out b11 HB9.out.size
    have HR11 : Hid (Rd .i64 w11 vb bs) := HR9.out.below b11
    have HF11 : Hid (Rd .i64 w11 v11 (stR (stF bs key) oth)) := o11.rd
    clear o11 b11 HB9 HR9 HS10 x0 x1 hm hm16 hmt HOH
    by_cases hpos : 0 < oth
    case neg =>
      have hdd : decide (1 ≤ oth ∧ oth ≤ 65535) = false := decide_eq_false (by omega)
      have hd2 : decide (0 < oth) = false := decide_eq_false hpos
      have hd3 : (0 < oth) = False := eq_false hpos
      rw [hdd]
      clear hpos hdd
      go_wp2_with (fail)
      refine (drawWeave_c v zs _ (HR.out.below HB11.out) HK.out (by have := HL.out; omega)).mono ?_
      rintro e wa ⟨vl, ls, rows, rfl, ra, la, ba⟩
      have HBa : Hid (Below w.heap.size w wa) := belowCall HB11.out ba HB11.out.size
      have HRa : Hid (Rd .i64 wa vl ls) := ra
      clear ba ra la HB11
      go_wp2_with (fail)
      refine (weaveI_c vl ls rows _ HRa.out).mono ?_
      rintro e wb ⟨vw, rfl, ob, bb⟩
      have HBb : Hid (Below w.heap.size w wb) := belowCall HBa.out bb HBa.out.size
      have HRb : Hid (Rd .i64 wb vl ls) := HRa.out.below bb
      have HWb : Hid (Rd .i64 wb vw (wvR ls rows)) := ob.rd
      clear ob bb HBa HRa
      go_wp2_with (fail)
      refine (weaveM_c vl ls rows _ HRb.out).mono ?_
      rintro e wc ⟨vx, rfl, -, bc⟩
      have HBc : Hid (Below w.heap.size w wc) := belowCall HBb.out bc HBb.out.size
      have HRc : Hid (Rd .i64 wc vl ls) := HRb.out.below bc
      have HWc : Hid (Rd .i64 wc vw (wvR ls rows)) := HWb.out.below bc
      clear bc HBb HRb HWb
      obtain ⟨wo, hwo⟩ : ∃ ok, wvB ls rows = ok := ⟨_, rfl⟩
      have HWO : Hid (wvB ls rows = wo) := hwo
      rw [hwo]
      have hne2 : (wo != wo) = false := by simp
      clear hwo
      go_wp2_with (fail)
      refine (unweaveI_c vw (wvR ls rows) rows _ HWc.out).mono ?_
      rintro e wd ⟨vy, rfl, od, bd⟩
      have HBd : Hid (Below w.heap.size w wd) := belowCall HBc.out bd HBc.out.size
      have HRd : Hid (Rd .i64 wd vl ls) := HRc.out.below bd
      have HYd : Hid (Rd .i64 wd vy (uwR (wvR ls rows) rows)) := od.rd
      clear od bd HBc HRc HWc
      cases wo with
      | false =>
        go_wp2
        go_ret
        exact ⟨rfl, HBd.out⟩
      | true =>
        have HYe : Hid (Rd .i64 wd vy ls) := by have := HYd.out; rw [(weave_back HWO.out).2] at this; exact this
        rw [(weave_back HWO.out).1]
        clear HYd
        go_wp2_with (fail)
        refine (sameI vy vl ls ls _ HYe.out HRd.out).mono ?_
        rintro e we ⟨rfl, be⟩
        rw [decide_eq_true (show ls = ls from rfl)]
        have HBe : Hid (Below w.heap.size w we) := belowCall HBd.out be HBd.out.size
        clear be
        go_wp2
        go_ret
        exact ⟨rfl, HBe.out⟩
    case pos =>
      have hdd : decide (1 ≤ oth ∧ oth ≤ 65535) = true := decide_eq_true ⟨by omega, HOB.out.2⟩
      have hd2 : decide (0 < oth) = true := decide_eq_true hpos
      rw [hdd]
      obtain ⟨av, cv, hvb, hv1, hv2, -⟩ := HR11.out
      unfold maxLen at hv2
      clear hdd
      by_cases hlen : 16 ≤ bs.length
      case neg =>
        have hd5 : decide ((16 : Int) ≤ (bs.length : Int)) = false := decide_eq_false (by omega)
        have hd6 : ((16 : Int) ≤ (bs.length : Int)) = False := eq_false (by omega)
        subst hvb
        clear hlen
        go_wp2_with (fail)
        refine (drawWeave_c v zs _ (HR.out.below HB11.out) HK.out (by have := HL.out; omega)).mono ?_
        rintro e wa ⟨vl, ls, rows, rfl, ra, la, ba⟩
        have HBa : Hid (Below w.heap.size w wa) := belowCall HB11.out ba HB11.out.size
        have HRa : Hid (Rd .i64 wa vl ls) := ra
        clear ba ra la HB11
        go_wp2_with (fail)
        refine (weaveI_c vl ls rows _ HRa.out).mono ?_
        rintro e wb ⟨vw, rfl, ob, bb⟩
        have HBb : Hid (Below w.heap.size w wb) := belowCall HBa.out bb HBa.out.size
        have HRb : Hid (Rd .i64 wb vl ls) := HRa.out.below bb
        have HWb : Hid (Rd .i64 wb vw (wvR ls rows)) := ob.rd
        clear ob bb HBa HRa
        go_wp2_with (fail)
        refine (weaveM_c vl ls rows _ HRb.out).mono ?_
        rintro e wc ⟨vx, rfl, -, bc⟩
        have HBc : Hid (Below w.heap.size w wc) := belowCall HBb.out bc HBb.out.size
        have HRc : Hid (Rd .i64 wc vl ls) := HRb.out.below bc
        have HWc : Hid (Rd .i64 wc vw (wvR ls rows)) := HWb.out.below bc
        clear bc HBb HRb HWb
        obtain ⟨wo, hwo⟩ : ∃ ok, wvB ls rows = ok := ⟨_, rfl⟩
        have HWO : Hid (wvB ls rows = wo) := hwo
        rw [hwo]
        have hne2 : (wo != wo) = false := by simp
        clear hwo
        go_wp2_with (fail)
        refine (unweaveI_c vw (wvR ls rows) rows _ HWc.out).mono ?_
        rintro e wd ⟨vy, rfl, od, bd⟩
        have HBd : Hid (Below w.heap.size w wd) := belowCall HBc.out bd HBc.out.size
        have HRd : Hid (Rd .i64 wd vl ls) := HRc.out.below bd
        have HYd : Hid (Rd .i64 wd vy (uwR (wvR ls rows) rows)) := od.rd
        clear od bd HBc HRc HWc
        cases wo with
        | false =>
          go_wp2
          go_ret
          exact ⟨rfl, HBd.out⟩
        | true =>
          have HYe : Hid (Rd .i64 wd vy ls) := by have := HYd.out; rw [(weave_back HWO.out).2] at this; exact this
          rw [(weave_back HWO.out).1]
          clear HYd
          go_wp2_with (fail)
          refine (sameI vy vl ls ls _ HYe.out HRd.out).mono ?_
          rintro e we ⟨rfl, be⟩
          rw [decide_eq_true (show ls = ls from rfl)]
          have HBe : Hid (Below w.heap.size w we) := belowCall HBd.out be HBd.out.size
          clear be
          go_wp2
          go_ret
          exact ⟨rfl, HBe.out⟩
      case pos =>
        have hd5 : decide ((16 : Int) ≤ (bs.length : Int)) = true := decide_eq_true (by omega)
        have hd6 : (16 : Int) ≤ (bs.length : Int) := by omega
        have HNE : Hid (stR (stF bs key) oth ≠ bs) := by
          show _ ≠ _
          rw [stR_yes (by rw [HST.out oth]; exact decide_eq_true ⟨by omega, HOB.out.2⟩)]
          exact stF_other (bbB_bs HBB.out) (by have := HM.out; omega) (by have := HKB.out; omega) HM.out HOT.out
        subst hvb
        clear hlen
        go_wp2_with (fail)
        refine (sameI v11 _ (stR (stF bs key) oth) bs _ HF11.out HR11.out).mono ?_
        rintro e w12 ⟨rfl, b12⟩
        rw [decide_eq_false HNE.out]
        have HB12 : Hid (Below w.heap.size w w12) := belowCall HB11.out b12 HB11.out.size
        clear b12 HB11 HR11 HF11 hd5 hd6
        go_wp2_with (fail)
        refine (drawWeave_c v zs _ (HR.out.below HB12.out) HK.out (by have := HL.out; omega)).mono ?_
        rintro e wa ⟨vl, ls, rows, rfl, ra, la, ba⟩
        have HBa : Hid (Below w.heap.size w wa) := belowCall HB12.out ba HB12.out.size
        have HRa : Hid (Rd .i64 wa vl ls) := ra
        clear ba ra la HB12
        go_wp2_with (fail)
        refine (weaveI_c vl ls rows _ HRa.out).mono ?_
        rintro e wb ⟨vw, rfl, ob, bb⟩
        have HBb : Hid (Below w.heap.size w wb) := belowCall HBa.out bb HBa.out.size
        have HRb : Hid (Rd .i64 wb vl ls) := HRa.out.below bb
        have HWb : Hid (Rd .i64 wb vw (wvR ls rows)) := ob.rd
        clear ob bb HBa HRa
        go_wp2_with (fail)
        refine (weaveM_c vl ls rows _ HRb.out).mono ?_
        rintro e wc ⟨vx, rfl, -, bc⟩
        have HBc : Hid (Below w.heap.size w wc) := belowCall HBb.out bc HBb.out.size
        have HRc : Hid (Rd .i64 wc vl ls) := HRb.out.below bc
        have HWc : Hid (Rd .i64 wc vw (wvR ls rows)) := HWb.out.below bc
        clear bc HBb HRb HWb
        obtain ⟨wo, hwo⟩ : ∃ ok, wvB ls rows = ok := ⟨_, rfl⟩
        have HWO : Hid (wvB ls rows = wo) := hwo
        rw [hwo]
        have hne2 : (wo != wo) = false := by simp
        clear hwo
        go_wp2_with (fail)
        refine (unweaveI_c vw (wvR ls rows) rows _ HWc.out).mono ?_
        rintro e wd ⟨vy, rfl, od, bd⟩
        have HBd : Hid (Below w.heap.size w wd) := belowCall HBc.out bd HBc.out.size
        have HRd : Hid (Rd .i64 wd vl ls) := HRc.out.below bd
        have HYd : Hid (Rd .i64 wd vy (uwR (wvR ls rows) rows)) := od.rd
        clear od bd HBc HRc HWc
        cases wo with
        | false =>
          go_wp2
          go_ret
          exact ⟨rfl, HBd.out⟩
        | true =>
          have HYe : Hid (Rd .i64 wd vy ls) := by have := HYd.out; rw [(weave_back HWO.out).2] at this; exact this
          rw [(weave_back HWO.out).1]
          clear HYd
          go_wp2_with (fail)
          refine (sameI vy vl ls ls _ HYe.out HRd.out).mono ?_
          rintro e we ⟨rfl, be⟩
          rw [decide_eq_true (show ls = ls from rfl)]
          have HBe : Hid (Below w.heap.size w we) := belowCall HBd.out be HBd.out.size
          clear be
          go_wp2
          go_ret
          exact ⟨rfl, HBe.out⟩

end Go.Proofs.Ytkgpnpgbadipjaa
