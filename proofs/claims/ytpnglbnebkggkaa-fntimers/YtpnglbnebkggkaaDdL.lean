/- FnDialled is true at every code; no condition. -/
import Derived.Test.YtpnglbnebkggkaaDud
import Derived.Test.YtpnglbnebkggkaaDdm
import Derived.Test.YtpnglbnebkggkaaDiM
import Derived.Test.YtpnglbnebkggkaaDiP
import Derived.Laws.BytesArg
namespace Go.Proofs.Ytpnglbnebkggkaa
open Go.RowKit Go.ChangeShapes Go.WideShapes Go.ChangeAt
set_option linter.unusedVariables false
set_option linter.unusedSimpArgs false
set_option maxRecDepth 8000
theorem bounds_u8 {z : Int} (h : (Lit.int .u8 z).wf = true) : 0 ≤ z ∧ z ≤ 255 := by
  simp [Lit.wf, IntKind.min, IntKind.max, IntKind.signed, IntKind.bits] at h; omega
/-- what is told, in a box -/
structure Bd (W : World) (g : Nat) (c r : Int) (nu : ByteArray) (k : Int) : Prop where
  b : Blk W g (D4 c r nu k) 28
theorem Bd.below {W W' : World} {g : Nat} {c r : Int} {nu : ByteArray} {k : Int} (h : Bd W g c r nu k) (hb : Below W.heap.size W W') : Bd W' g c r nu k := ⟨h.b.below hb h.b.lt⟩
theorem digit_ok {dd : Int} (h : 0 ≤ dd ∧ dd ≤ 9) : (strOfNums [48 + dd]).size = 1 ∧ DgOk (strOfNums [48 + dd]) := by
  obtain ⟨n, rfl⟩ := Int.eq_ofNat_of_zero_le h.1
  have hn : n ≤ 9 := by omega
  have e : strOfNums [48 + (n : Int)] = ⟨#[UInt8.ofNat (48 + n)]⟩ := by
    simp only [strOfNums, List.map_cons, List.map_nil]
    congr 2
  rw [e]
  refine ⟨rfl, by show (1 : Nat) ≤ 20; omega, fun i hi _ => ?_⟩
  have h0 : i = 0 := by have : i < 1 := hi; omega
  subst h0
  have e2 : ((⟨#[UInt8.ofNat (48 + n)]⟩ : ByteArray)[0]'hi).toNat = 48 + n := by
    show (UInt8.ofNat (48 + n)).toNat = 48 + n
    rw [UInt8.toNat_ofNat']
    omega
  rw [e2]
  exact .inl ⟨by omega, by omega⟩
set_option maxHeartbeats 25600000 in
theorem dialledLaw (v : Value) (zs : List Int) (w : World) (h : Rd .u8 w v zs) (hok : ∀ z ∈ zs, (Lit.int .u8 z).wf = true) : Calls Try.prog 3 #[v] w fun e w' => e = .returned (.bool true) ∧ Below w.heap.size w w' := by
  have HK : Hid (∀ z ∈ zs, 0 ≤ z ∧ z ≤ 255) := fun z hz => bounds_u8 (hok z hz)
  have HR : Hid (Rd .u8 w v zs) := h
  have HB : Hid (Below w.heap.size w w) := Below.refl _ _
  obtain ⟨av, capv, rfl, -⟩ := h
  clear hok
  go_enter Try.func3, Try.ntmps3
  go_wp2_with (fail)
  refine (big_c _ zs w HR.out).mono ?_
  rintro e w0 ⟨rfl, hw0⟩
  rw [hw0]
  clear hw0
  by_cases hbig : (1048576 : Int) < (zs.length : Int)
  · have e0 : decide ((1048576 : Int) < (zs.length : Int)) = true := decide_eq_true hbig
    go_wp2
    go_ret
    exact ⟨rfl, HB.out⟩
  have e0 : decide ((1048576 : Int) < (zs.length : Int)) = false := decide_eq_false hbig
  have HLZ : Hid (zs.length ≤ 1048576) := by show _ ≤ _; omega
  go_wp2_with (fail)
  refine (drawDial_c _ zs w HR.out HK.out (by have := HLZ.out; omega)).mono ?_
  rintro e w1 ⟨u, ls, s, rfl, o1, l1, p1, s1, b1⟩
  have HO1 : Hid (Orr 31 w.heap.size w1 u ls) := o1
  have HB1 : Hid (Below w.heap.size w w1) := b1
  have HSZ : Hid (Szs ls) := fun r hr => ⟨by have := (p1 r hr).1; omega, by have := (p1 r hr).2; omega⟩
  have HS1 : Hid (s.size ≤ 200) := s1
  have HL1 : Hid (ls.length ≤ 7) := l1
  obtain ⟨a, cap, rfl, h1, h2, h3⟩ := own_form o1
  clear o1 b1 p1 s1 l1 hbig e0 HB
  go_wp2_with (fail)
  refine (diI_c _ ls s w1 HO1.out.rd HSZ.out (by have := HS1.out; omega)).mono ?_
  rintro e w2 ⟨c, ro, nu, k, rfl, hd, b2⟩
  have HD : Hid (DialS ls s (c, ro, nu, k)) := hd
  obtain ⟨g5, hg5⟩ : ∃ g, w2.heap.size = g := ⟨_, rfl⟩
  obtain ⟨W3, hW3⟩ : ∃ W, w2.alloc (Obj.cells (D4 c ro nu k) 28) = W := ⟨_, rfl⟩
  have al : Below w2.heap.size w2 W3 := by rw [← hW3]; exact (Below.refl _ _).alloc (Nat.le_refl _) _
  have HX3 : Hid (Bd W3 g5 c ro nu k) := ⟨by rw [← hW3, ← hg5]; exact Blk.new _ _ _⟩
  have HB3 : Hid (Below w.heap.size w W3) := belowCall (belowCall HB1.out b2 HB1.out.size) al (Nat.le_trans HB1.out.size b2.size)
  have HO3 : Hid (Orr 31 w.heap.size W3 (.slice a ls.length cap) ls) := (HO1.out.below b2).below al
  have HW3 : Hid (w2.alloc (Obj.cells (D4 c ro nu k) 28) = W3 ∧ w2.heap.size = g5) := ⟨hW3, hg5⟩
  clear hd al hW3 hg5 b2 HB1 HO1
  go_wp2_with (fail)
  rw [HW3.out.1, HW3.out.2]
  refine (diM_c _ ls s W3 HO3.out.rd HSZ.out (by have := HS1.out; omega)).mono ?_
  rintro e w4 ⟨c', ro', nu', k', rfl, hd, b4⟩
  obtain ⟨rfl, rfl, rfl, rfl⟩ : c = c' ∧ ro = ro' ∧ nu = nu' ∧ k = k' := by have := HD.out.same hd; simpa using this
  obtain ⟨g6, hg6⟩ : ∃ g, w4.heap.size = g := ⟨_, rfl⟩
  obtain ⟨W5, hW5⟩ : ∃ W, w4.alloc (Obj.cells (D4 c ro nu k) 28) = W := ⟨_, rfl⟩
  have al : Below w4.heap.size w4 W5 := by rw [← hW5]; exact (Below.refl _ _).alloc (Nat.le_refl _) _
  have HX5 : Hid (Bd W5 g5 c ro nu k) := (HX3.out.below b4).below al
  have HY5 : Hid (Bd W5 g6 c ro nu k) := ⟨by rw [← hW5, ← hg6]; exact Blk.new _ _ _⟩
  have HB5 : Hid (Below w.heap.size w W5) := belowCall (belowCall HB3.out b4 HB3.out.size) al (Nat.le_trans HB3.out.size b4.size)
  have HO5 : Hid (Orr 31 w.heap.size W5 (.slice a ls.length cap) ls) := (HO3.out.below b4).below al
  have HW5 : Hid (w4.alloc (Obj.cells (D4 c ro nu k) 28) = W5 ∧ w4.heap.size = g6) := ⟨hW5, hg6⟩
  clear hd al hW5 hg6 b4 HB3 HO3 HX3 HW3
  go_upto_region 6 with fail
  rw [HW5.out.1, HW5.out.2]
  clear HW5
  have x0 := HX5.out.b.cell 0
  have x3 := HX5.out.b.cell 3
  have y0 := HY5.out.b.cell 0
  have y3 := HY5.out.b.cell 3
  simp at x0 x3 y0 y3
  have nc : (c != c) = false := by simp
  have nk : (k != k) = false := by simp
  obtain ⟨X, hX⟩ : ∃ X, W5.heap.size = X := ⟨_, rfl⟩
  obtain ⟨W6, hW6⟩ : ∃ W, W5.alloc (Obj.cells (R6 ⟨⟨#[49]⟩, 1, 1, 3, 0, ⟨#[]⟩⟩) 31) = W := ⟨_, rfl⟩
  have HR6 : Hid (Rr W6 (.slice (some ⟨X, 0, none⟩) 1 1) [⟨⟨#[49]⟩, 1, 1, 3, 0, ⟨#[]⟩⟩]) := by rw [← hW6, ← hX]; exact Rr.one (Blk.new _ _ _)
  have al : Below W5.heap.size W5 W6 := by rw [← hW6]; exact (Below.refl _ _).alloc (Nat.le_refl _) _
  have HX6 : Hid (Bd W6 g5 c ro nu k) := HX5.out.below al
  have HY6 : Hid (Bd W6 g6 c ro nu k) := HY5.out.below al
  have HB6 : Hid (Below w.heap.size w W6) := belowCall HB5.out al HB5.out.size
  have HO6 : Hid (Orr 31 w.heap.size W6 (.slice a ls.length cap) ls) := HO5.out.below al
  have HW6 : Hid (W5.alloc (Obj.cells (R6 ⟨⟨#[49]⟩, 1, 1, 3, 0, ⟨#[]⟩⟩) 31) = W6 ∧ W5.heap.size = X) := ⟨hW6, hX⟩
  clear al hW6 hX HB5 HO5 HX5 HY5
  go_wp2_with (fail)
  rw [HW6.out.1, HW6.out.2]
  clear HW6 x0 x3 y0 y3 nc nk
  refine (diI_c _ _ ⟨#[49]⟩ W6 HR6.out (fun r hr => by rw [List.mem_singleton] at hr; subst hr; decide) (by decide)).mono ?_
  rintro e w7 ⟨c1, ro1, nu1, k1, rfl, hd, b7⟩
  obtain ⟨rfl, rfl, rfl⟩ := dial_one hd
  obtain ⟨g7, hg7⟩ : ∃ g, w7.heap.size = g := ⟨_, rfl⟩
  obtain ⟨W8, hW8⟩ : ∃ W, w7.alloc (Obj.cells (D4 2 3 ⟨#[49]⟩ k1) 28) = W := ⟨_, rfl⟩
  have al : Below w7.heap.size w7 W8 := by rw [← hW8]; exact (Below.refl _ _).alloc (Nat.le_refl _) _
  have HX8 : Hid (Bd W8 g5 c ro nu k) := (HX6.out.below b7).below al
  have HY8 : Hid (Bd W8 g6 c ro nu k) := (HY6.out.below b7).below al
  have HZ8 : Hid (Bd W8 g7 2 3 ⟨#[49]⟩ k1) := ⟨by rw [← hW8, ← hg7]; exact Blk.new _ _ _⟩
  have HB8 : Hid (Below w.heap.size w W8) := belowCall (belowCall HB6.out b7 HB6.out.size) al (Nat.le_trans HB6.out.size b7.size)
  have HO8 : Hid (Orr 31 w.heap.size W8 (.slice a ls.length cap) ls) := (HO6.out.below b7).below al
  have HW8 : Hid (w7.alloc (Obj.cells (D4 2 3 ⟨#[49]⟩ k1) 28) = W8 ∧ w7.heap.size = g7) := ⟨hW8, hg7⟩
  clear hd al hW8 hg7 b7 HB6 HO6 HX6 HY6 HR6
  go_upto_region 9 with fail
  rw [HW8.out.1, HW8.out.2]
  clear HW8
  have x0 := HX8.out.b.cell 0
  have x1 := HX8.out.b.cell 1
  have x2 := HX8.out.b.cell 2
  have x3 := HX8.out.b.cell 3
  have y0 := HY8.out.b.cell 0
  have y3 := HY8.out.b.cell 3
  have z0 := HZ8.out.b.cell 0
  have z1 := HZ8.out.b.cell 1
  have z2 := HZ8.out.b.cell 2
  simp at x0 x1 x2 x3 y0 y3 z0 z1 z2
  by_cases hc2 : c = 2 ∨ c = 1
  case neg =>
    obtain ⟨rfl, rfl⟩ := dial_none HD.out (fun e => hc2 (.inl e)) (fun e => hc2 (.inr e))
    have n2 : (c != 2) = true := by simpa using fun e => hc2 (.inl e)
    have n1 : (c != 1) = true := by simpa using fun e => hc2 (.inr e)
    clear hc2
    go_wp2
    go_ret
    exact ⟨rfl, HB8.out⟩
  case pos =>
  obtain ⟨i, hi, hk, hro, hnu, hrk, hds, hle, hmo⟩ := dial_rule HD.out hc2
  have HO8c : Hid (∀ i (h : i < ls.length), ∃ b, a = some ⟨b, 0, none⟩ ∧ W8.cell? ⟨b, i * 6, none⟩ = some (.string ls[i].pre) ∧ W8.cell? ⟨b, i * 6 + 1, none⟩ = some (.int .i64 ls[i].le) ∧ W8.cell? ⟨b, i * 6 + 2, none⟩ = some (.int .i64 ls[i].mo) ∧ W8.cell? ⟨b, i * 6 + 3, none⟩ = some (.int .i64 ls[i].ro) ∧ W8.cell? ⟨b, i * 6 + 4, none⟩ = some (.int .i64 ls[i].st) ∧ W8.cell? ⟨b, i * 6 + 5, none⟩ = some (.string ls[i].ad)) := fun i h => by
    rcases h3 with h3 | ⟨b, rfl⟩
    · omega
    refine ⟨b, rfl, ?_⟩
    have hh := rr_at ls i h
    rw [World.ownsRow.cellAt HO8.out (i * 6) (by omega), World.ownsRow.cellAt HO8.out (i * 6 + 1) (by omega), World.ownsRow.cellAt HO8.out (i * 6 + 2) (by omega), World.ownsRow.cellAt HO8.out (i * 6 + 3) (by omega), World.ownsRow.cellAt HO8.out (i * 6 + 4) (by omega), World.ownsRow.cellAt HO8.out (i * 6 + 5) (by omega)]
    exact hh
  obtain ⟨b, rfl, r0, r1, r2, r3, r4, r5⟩ := HO8c.out i hi
  clear HO8c h3
  obtain ⟨r, hr⟩ : ∃ r, ls[i] = r := ⟨_, rfl⟩
  rw [hr] at hro hnu hrk hle hmo r0 r1 r2 r3 r4 r5
  obtain ⟨pre, le, mo, ro0, st0, ad⟩ := r
  dsimp only at hro hnu hle hmo r0 r1 r2 r3 r4 r5
  have HRK : Hid (RuleOk ⟨pre, le, mo, ro0, st0, ad⟩) := hrk
  have HDS : Hid (DgOk s) := hds
  have hst : 0 ≤ st0 ∧ st0 ≤ le := hrk.2.2.2.2.2.1
  have hmo20 : mo ≤ 20 := hrk.2.2.2.1
  have had : ad.size ≤ 20 := hrk.2.2.2.2.2.2.1.1
  have hs20 : s.size ≤ 20 := hds.1
  obtain ⟨st, rfl⟩ := Int.eq_ofNat_of_zero_le hst.1
  have hsts : st ≤ s.size := by omega
  have hstI : (st : Int) ≤ (s.size : Int) := by omega
  have hnv : numV ⟨pre, le, mo, ro0, (st : Int), ad⟩ s = ad ++ s.extract st s.size := by simp [numV]
  rw [hnv] at hnu
  subst hro hnu hk
  obtain ⟨nu, hnu⟩ : ∃ nu, ad ++ s.extract st s.size = nu := ⟨_, rfl⟩
  rw [hnu] at HD HX8 HY8 x2
  have HNU : Hid (ad ++ s.extract st s.size = nu) := hnu
  obtain ⟨g8, hg8⟩ : ∃ g, W8.heap.size = g := ⟨_, rfl⟩
  obtain ⟨W9, hW9⟩ : ∃ W, W8.alloc (Obj.cells (R6 ⟨pre, le, mo, ro, st, ad⟩) 31) = W := ⟨_, rfl⟩
  have al : Below W8.heap.size W8 W9 := by rw [← hW9]; exact (Below.refl _ _).alloc (Nat.le_refl _) _
  have HX9 : Hid (Bd W9 g5 c ro nu i) := HX8.out.below al
  have HY9 : Hid (Bd W9 g6 c ro nu i) := HY8.out.below al
  have HQ9 : Hid (Blk W9 g8 (R6 ⟨pre, le, mo, ro, st, ad⟩) 31) := by rw [← hW9, ← hg8]; exact Blk.new _ _ _
  have HB9 : Hid (Below w.heap.size w W9) := belowCall HB8.out al HB8.out.size
  have HO9 : Hid (Orr 31 w.heap.size W9 (.slice (some ⟨b, 0, none⟩) ls.length cap) ls) := HO8.out.below al
  have HW9 : Hid (W8.alloc (Obj.cells (R6 ⟨pre, le, mo, ro, st, ad⟩) 31) = W9 ∧ W8.heap.size = g8) := ⟨hW9, hg8⟩
  have hiI : (i : Int) < (ls.length : Int) := by omega
  have HC : Hid (c = 2 ∨ c = 1) := hc2
  have HHH : Hid (le ≤ (s.size : Int) ∧ (s.size : Int) ≤ mo) := ⟨hle, hmo⟩
  have c12 : (c != 2) = true → (c != 1) = false := by rcases hc2 with rfl | rfl <;> decide
  clear al hW9 hg8 hr hrk hds hst HB8 HX8 HY8 HO8 hc2 hle hmo hnv hnu
  by_cases hc : c = 2
  · have n2 : (c != 2) = false := by simp [hc]
    have n2' : (c == 2) = true := by simp [hc]
    clear c12
    go_upto_region 14 with fail
    rw [HW9.out.1, HW9.out.2]
    clear x0 x1 x2 x3 y0 y3 z0 z1 z2 r0 r1 r2 r3 r4 r5
    have x1 := HX9.out.b.cell 1
    have x2 := HX9.out.b.cell 2
    have y0 := HY9.out.b.cell 0
    have q1 := HQ9.out.cell 1
    have q2 := HQ9.out.cell 2
    have q3 := HQ9.out.cell 3
    have q4 := HQ9.out.cell 4
    have q5 := HQ9.out.cell 5
    simp at x1 x2 y0 q1 q2 q3 q4 q5
    rw [← HNU.out] at x2
    have nr : (ro != ro) = false := by simp
    have hst0 : (0 : Int) ≤ (st : Int) := by omega
    have nl1 : decide ((s.size : Int) < le) = false := decide_eq_false (by have := HHH.out; omega)
    have nl2 : decide (mo < (s.size : Int)) = false := decide_eq_false (by have := HHH.out; omega)
    go_quiet (fail)
    by_cases hr0 : ro = 0
    · have e0 : (ro == 0) = true := by simp [hr0]
      clear hr0
      go_wp2
      go_ret
      exact ⟨rfl, below_drewN HB9.out _⟩
    have e0 : (ro == 0) = false := by simpa using hr0
    have HR0 : Hid (ro ≠ 0) := hr0
    clear hr0
    by_cases h20 : (20 : Int) ≤ (s.size : Int)
    · have e1 : decide ((20 : Int) ≤ (s.size : Int)) = true := decide_eq_true h20
      go_wp2
      go_ret
      exact ⟨rfl, below_drewN HB9.out _⟩
    have e1 : decide ((20 : Int) ≤ (s.size : Int)) = false := decide_eq_false h20
    have HBX : Hid (Below W9.heap.size W9 (W9.drewN nq)) := below_drewN (Below.refl _ _) _
    have HBW : Hid (Below w.heap.size w (W9.drewN nq)) := below_drewN HB9.out _
    have HOX : Hid (Orr 31 w.heap.size (W9.drewN nq) (.slice (some ⟨b, 0, none⟩) ls.length cap) ls) := HO9.out.below HBX.out
    obtain ⟨WQ, hWQ⟩ : ∃ W, W9.drewN nq = W := ⟨_, rfl⟩
    rw [hWQ] at HBW HOX
    have HWQ : Hid (W9.drewN nq = WQ) := hWQ
    clear hWQ HBX HB9 HO9
    go_wp2_with (fail)
    rw [HWQ.out]
    refine (at_c _ zs 0 WQ (HR.out.below HBW.out) HK.out (by omega) (by omega) HLZ.out).mono ?_
    rintro e wt ⟨y, rfl, y0, y1, hwt⟩
    rw [hwt]
    clear hwt x1 x2 q1 q2 q3 q4 q5 HWQ
    have hy : 0 ≤ y % 10 ∧ y % 10 ≤ 9 := by omega
    obtain ⟨dd, hdd⟩ : ∃ dd, y % 10 = dd := ⟨_, rfl⟩
    rw [hdd] at hy
    have hcv : (convert 22 9 (.slice (some ⟨WQ.heap.size, 0, none⟩) 1 1)).run Try.prog (WQ.alloc (Obj.cells #[.int .u8 (48 + dd)] 5)) = .ok (.string (strOfNums [48 + dd])) (WQ.alloc (Obj.cells #[.int .u8 (48 + dd)] 5)) :=
      run_convert_bytes_arg _ 22 5 Try.underlying22 Try.underlying5 WQ.heap.size 0 1 1 [48 + dd] rfl (fun i hi => by
        have h0 : i = 0 := by omega
        subst h0
        exact (Blk.new WQ _ 5).cell 0) 9 Try.underlying9
    obtain ⟨D, hD⟩ : ∃ D, strOfNums [48 + dd] = D := ⟨_, rfl⟩
    have HDD : Hid (D.size = 1 ∧ DgOk D) := by rw [← hD]; exact digit_ok hy
    rw [hD] at hcv
    have hsD : s.size + D.size ≤ 100 := by have := HDD.out.1; omega
    obtain ⟨WR, hWR⟩ : ∃ W, WQ.alloc (Obj.cells #[.int .u8 (48 + dd)] 5) = W := ⟨_, rfl⟩
    have alR : Below WQ.heap.size WQ WR := by rw [← hWR]; exact (Below.refl _ _).alloc (Nat.le_refl _) _
    have HOR : Hid (Orr 31 w.heap.size WR (.slice (some ⟨b, 0, none⟩) ls.length cap) ls) := HOX.out.below alR
    have HBR : Hid (Below w.heap.size w WR) := belowCall HBW.out alR HBW.out.size
    have HWR : Hid (WQ.alloc (Obj.cells #[.int .u8 (48 + dd)] 5) = WR) := hWR
    have H20 : Hid (s.size < 20) := by show _ < _; omega
    clear hD alR hWR HOX
    go_wp2_with (fail)
    rw [HWR.out]
    refine (diI_c _ ls (s ++ D) WR HOR.out.rd HSZ.out (by rw [ByteArray.size_append]; omega)).mono ?_
    rintro e wn ⟨cn, rn, nn, kn, rfl, hdn, bn⟩
    have hfin := dial_next HDD.out.1 HDD.out.2 H20.out HD.out hc HR0.out hdn
    obtain ⟨g9, hg9⟩ : ∃ g, wn.heap.size = g := ⟨_, rfl⟩
    obtain ⟨WN, hWN⟩ : ∃ W, wn.alloc (Obj.cells (D4 cn rn nn kn) 28) = W := ⟨_, rfl⟩
    have HN : Hid (Bd WN g9 cn rn nn kn) := ⟨by rw [← hWN, ← hg9]; exact Blk.new _ _ _⟩
    have HBN : Hid (Below w.heap.size w WN) := by rw [← hWN]; exact belowCall (belowCall HBR.out bn HBR.out.size) ((Below.refl _ _).alloc (Nat.le_refl _) _) (Nat.le_trans HBR.out.size bn.size)
    have HWN : Hid (wn.alloc (Obj.cells (D4 cn rn nn kn) 28) = WN ∧ wn.heap.size = g9) := ⟨hWN, hg9⟩
    clear hWN hg9 bn hdn HBR HOR hcv
    go_upto_region 19 with fail
    rw [HWN.out.1, HWN.out.2]
    have m0 := HN.out.b.cell 0
    have m1 := HN.out.b.cell 1
    simp at m0 m1
    rcases hfin with rfl | ⟨rfl, rfl⟩
    · go_wp2
      go_ret
      exact ⟨rfl, HBN.out⟩
    · go_wp2
      go_ret
      exact ⟨rfl, HBN.out⟩
  · have n2 : (c != 2) = true := by simpa using hc
    have n1 : (c != 1) = false := c12 n2
    clear c12 hc
    go_upto_region 14 with fail
    rw [HW9.out.1, HW9.out.2]
    clear x0 x1 x2 x3 y0 y3 z0 z1 z2 r0 r1 r2 r3 r4 r5
    have x1 := HX9.out.b.cell 1
    have x2 := HX9.out.b.cell 2
    have y0 := HY9.out.b.cell 0
    have q1 := HQ9.out.cell 1
    have q2 := HQ9.out.cell 2
    have q3 := HQ9.out.cell 3
    have q4 := HQ9.out.cell 4
    have q5 := HQ9.out.cell 5
    simp at x1 x2 y0 q1 q2 q3 q4 q5
    rw [← HNU.out] at x2
    have nr : (ro != ro) = false := by simp
    have hst0 : (0 : Int) ≤ (st : Int) := by omega
    have nl1 : decide ((s.size : Int) < le) = false := decide_eq_false (by have := HHH.out; omega)
    have nl2 : decide (mo < (s.size : Int)) = false := decide_eq_false (by have := HHH.out; omega)
    go_quiet (fail)
    go_wp2
    go_ret
    exact ⟨rfl, below_drewN HB9.out _⟩
end Go.Proofs.Ytpnglbnebkggkaa
