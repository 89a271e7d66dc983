/- A level is drawn; no condition. -/
import Derived.Test.YtdphnkjmpogecaaDrawB
import Derived.Test.YtdphnkjmpogecaaLm
namespace Go.Proofs.Ytdphnkjmpogecaa
open Go.RowKit Go.ChangeShapes Go.WideShapes Go.ChangeAt
set_option linter.unusedVariables false
set_option linter.unusedSimpArgs false
set_option maxRecDepth 8000
theorem big_c (v : Value) (zs : List Int) (w : World) (h : Rd .u8 w v zs) : Calls Try.prog 7 #[v] w fun e w' => e = .returned (.bool (decide ((1048576 : Int) < (zs.length : Int)))) ∧ w' = w := by
  obtain ⟨a, cap, rfl, -, h2, -⟩ := h
  unfold maxLen at h2
  go_enter Try.func7, Try.ntmps7
  go_wp2
  go_ret
  exact ⟨rfl, rfl⟩
set_option maxHeartbeats 1600000 in
theorem at_c (v : Value) (zs : List Int) (i : Int) (w : World) (h : Rd .u8 w v zs) (hok : ∀ z ∈ zs, 0 ≤ z ∧ z ≤ 255) (hi0 : 0 ≤ i) (hi : i ≤ 100000) (hlen : zs.length ≤ 1048576) :
   Calls Try.prog 8 #[v, .int .i64 i] w fun e w' => ∃ x : Int, e = .returned (.int .i64 x) ∧ 0 ≤ x ∧ x ≤ 255 ∧ w' = w := by
  obtain ⟨a, cap, rfl, h1, h2, h3⟩ := h
  unfold maxLen at h2
  obtain ⟨k, rfl⟩ := Int.eq_ofNat_of_zero_le hi0
  by_cases hlt : k < zs.length
  · rcases h3 with h3 | ⟨b, off, rfl, h4⟩
    · subst h3; simp at hlt
    have hc := h4 k hlt
    have hb := hok _ (List.getElem_mem hlt)
    have hltI : (k : Int) < (zs.length : Int) := by omega
    clear h4 hok
    go_enter Try.func8, Try.ntmps8
    go_wp2
    go_ret
    exact ⟨_, rfl, hb.1, hb.2, rfl⟩
  · clear h3 hok
    go_enter Try.func8, Try.ntmps8
    go_wp2
    go_ret
    exact ⟨_, rfl, by omega, by omega, rfl⟩
theorem Blk.grown {w w' : World} {g : Nat} {cs : Array Value} {t : TypeId} {row : Option Nat} (h : Blk w g cs t) (hg : w.grownBy w' row) (hne : some g ≠ row) : Blk w' g cs t := by
  rw [Blk, hg.block g h.lt hne]; exact h
/-- from w on nothing old was turned but the cursor g -/
structure Dc (w W : World) (g : Nat) (cv : Value) (zs : List Int) : Prop where
  dr : Dr W g cv zs
  gr : w.grownBy W (some g)
  lt : g < w.heap.size
  cl : zs = [] ∨ ∀ k, cv.ownBlock = some k → k < w.heap.size
theorem Dc.start {w : World} {g : Nat} {cv : Value} {zs : List Int} (h : Dr w g cv zs) : Dc w w g cv zs := by
  refine ⟨h, grown_refl _ _, h.lt, ?_⟩
  obtain ⟨a, cap, rfl, -, -, h3⟩ := h.rd
  rcases h3 with h3 | ⟨b, off, rfl, h4⟩
  · exact .inl h3
  · cases zs with
    | nil => exact .inl rfl
    | cons z r => exact .inr (fun k e => by simp [Value.ownBlock] at e; subst e; exact block_lt_of_cell (h4 0 (by simp)))
theorem Dc.below {w W W' : World} {g : Nat} {cv : Value} {zs : List Int} (h : Dc w W g cv zs) (hb : Below W.heap.size W W') : Dc w W' g cv zs :=
  ⟨h.dr.below hb, ⟨hb.os.trans h.gr.os, hb.tape.trans h.gr.tape, hb.output.trans h.gr.output, Nat.le_trans h.gr.size hb.size, fun j hj hne => (hb.block j (Nat.lt_of_lt_of_le hj h.gr.size)).trans (h.gr.block j hj hne)⟩, h.lt, h.cl⟩
theorem Dc.draw {w W W' : World} {g : Nat} {cv : Value} {zs : List Int} (h : Dc w W g cv zs) (hd : Dr W' g cv zs) (hg : W.grownBy W' (some g)) : Dc w W' g cv zs := ⟨hd, grown_trans h.gr hg, h.lt, h.cl⟩
/-- a row that is new is written -/
theorem Dc.app {w W W' : World} {g : Nat} {cv : Value} {zs : List Int} {row : Option Nat} (h : Dc w W g cv zs) (hr : ∀ k, row = some k → w.heap.size ≤ k) (hg : W.grownBy W' row) : Dc w W' g cv zs := by
  have hd : Dr W' g cv zs := by
    obtain ⟨i, hh, k, h1, h2⟩ := h.dr.cur
    refine ⟨⟨i, hh, k.grown hg (fun e => by have := hr g e.symm; have := h.lt; omega), h1, h2⟩, h.dr.rd.grownE hg ?_, h.dr.ap, h.dr.ok, h.dr.len⟩
    rcases h.cl with h0 | h0
    · exact .inl h0
    · cases hv : cv.ownBlock with
      | none => exact .inr (.inl rfl)
      | some k => exact .inr (.inr (fun e => by have := h0 k hv; have := hr k e.symm; omega))
  exact ⟨hd, ⟨hg.os.trans h.gr.os, hg.tape.trans h.gr.tape, hg.output.trans h.gr.output, Nat.le_trans h.gr.size hg.size, fun j hj hn => (hg.block j (Nat.lt_of_lt_of_le hj h.gr.size) (fun e => by have := hr j e.symm; omega)).trans (h.gr.block j hj hn)⟩, h.lt, h.cl⟩
/-- numbers written out -/
theorem Rd.lit (W : World) (zs : List Int) (h : zs.length ≤ 1000) : Rd .i64 (W.alloc (.cells (zs.map (Value.int .i64)).toArray 3)) (.slice (some ⟨W.heap.size, 0, none⟩) zs.length zs.length) zs := by
  have h1 : Ow .i64 3 W.heap.size (W.alloc (.cells (zs.map (Value.int .i64)).toArray 3)) (.slice (some ⟨W.heap.size, 0, none⟩) zs.length zs.length) zs := by
    have := World.ownsRow_lit (e := 3) (size := 1) (base := W.heap.size) W (zs.map (Value.int .i64)).toArray zs.length (Nat.le_refl _) (by unfold maxLen; omega) (by simp)
    unfold Ow; simpa using this
  exact h1.rd
set_option maxHeartbeats 800000 in
theorem once_c (g : Nat) (cv : Value) (zs : List Int) (n : Int) (w : World) (h : Dr w g cv zs) (hn : n ≤ 1099511627776) :
   Calls Try.prog 20 #[.pointer (some ⟨g, 0, none⟩), .int .i64 n] w fun e w' => ∃ r : Bool, e = .returned (.bool r) ∧ Dr w' g cv zs ∧ w.grownBy w' (some g) := by
  go_enter Try.func20, Try.ntmps20
  go_wp2_with (fail)
  refine (below_c g cv zs n w h hn).mono ?_
  rintro e w1 ⟨x, rfl, x0, x1, x2, d1, g1⟩
  have HF : Hid (Dr w1 g cv zs ∧ w.grownBy w1 (some g)) := ⟨d1, g1⟩
  clear d1 g1 x1 x2
  go_wp2
  go_ret
  exact ⟨_, rfl, HF.out⟩

theorem shr_bd (x : Int) (k : Nat) (h : -32767 ≤ x ∧ x ≤ 32767) : -32767 ≤ x / 2 ^ k ∧ x / 2 ^ k ≤ 32767 := by
  have hp : (1 : Int) ≤ 2 ^ k := by have := Nat.one_le_two_pow (n := k); exact_mod_cast this
  constructor
  · have := Int.le_ediv_of_mul_le (a := -32767) (b := x) (c := 2 ^ k) (by omega) (by
      have : (-32767 : Int) * 2 ^ k ≤ -32767 * 1 := Int.mul_le_mul_of_nonpos_left (by omega) hp
      omega)
    exact this
  · by_cases c : 0 ≤ x
    · exact Int.le_trans (Int.ediv_le_self _ c) h.2
    · have := Int.ediv_neg_of_neg_of_pos (a := x) (b := 2 ^ k) (by omega) (by omega)
      omega
set_option maxHeartbeats 1600000 in
theorem drawTo_c (v : Value) (zs : List Int) (w : World) (h : Rd .u8 w v zs) (hok : ∀ z ∈ zs, 0 ≤ z ∧ z ≤ 255) (hlen : zs.length ≤ 1048576) :
    Calls Try.prog 9 #[v] w fun e w' => ∃ x : Int, e = .returned (.int .i64 x) ∧ -32768 ≤ x ∧ x ≤ 32768 ∧ Below w.heap.size w w' := by
  have HR : Hid (Rd .u8 w v zs) := h
  have HOK : Hid (∀ z ∈ zs, 0 ≤ z ∧ z ≤ 255) := hok
  obtain ⟨a, cap, rfl, h1, h2, -⟩ := h
  clear hok
  go_enter Try.func9, Try.ntmps9
  go_wp2_with (fail)
  refine (new_c _ zs _ HR.out HOK.out (by omega)).mono ?_
  rintro e w1 ⟨g, rfl, d1, hg, b1⟩
  have HD1 : Hid (Dr w1 g (.slice a zs.length cap) zs) := d1
  have HG : Hid (w.heap.size ≤ g) := hg
  have HB1 : Hid (Below w.heap.size w w1) := b1
  clear d1 hg b1
  go_wp2_with (fail)
  refine (once_c _ _ _ _ _ HD1.out (by omega)).mono ?_
  rintro e w2 ⟨r, rfl, d2, g2⟩
  have HD2 : Hid (Dr w2 g (.slice a zs.length cap) zs) := d2
  have HB2 : Hid (Below w.heap.size w w2) := HB1.out.trans (grown_below g2 HB1.out.size (fun k e => by have := HG.out; have := Option.some.inj e; omega))
  clear d2 g2 HD1 HB1
  cases r
  · go_wp2_with (fail)
    refine (below_c _ _ _ _ _ HD2.out (by omega)).mono ?_
    rintro e w3 ⟨x, rfl, x0, x1, -, d3, g3⟩
    have x1' := x1 (by omega)
    have HD3 : Hid (Dr w3 g (.slice a zs.length cap) zs) := d3
    have HB3 : Hid (Below w.heap.size w w3) := HB2.out.trans (grown_below g3 HB2.out.size (fun k e => by have := HG.out; have := Option.some.inj e; omega))
    clear d3 g3 x1
    go_wp2_with (fail)
    refine (below_c _ _ _ _ _ HD3.out (by omega)).mono ?_
    rintro e w4 ⟨y, rfl, y0, y1, -, d4, g4⟩
    have y1' := y1 (by omega)
    have HB4 : Hid (Below w.heap.size w w4) := HB3.out.trans (grown_below g4 HB3.out.size (fun k e => by have := HG.out; have := Option.some.inj e; omega))
    clear d4 g4 y1
    go_wp2
    go_ret
    have := shr_bd (x - 32767) y.toNat (by omega)
    exact ⟨_, rfl, by omega, by omega, HB4.out⟩
  · obtain ⟨W, hW⟩ : ∃ W, w2.alloc (Obj.cells #[.int .i64 0, .int .i64 16, .int .i64 (-16), .int .i64 256, .int .i64 32767, .int .i64 (-32767), .int .i64 32768, .int .i64 (-32768), .int .i64 8] 3) = W := ⟨_, rfl⟩
    have al : Below w2.heap.size w2 W := by rw [← hW]; exact (Below.refl _ _).alloc (Nat.le_refl _) _
    have HDW : Hid (Dr W g (.slice a zs.length cap) zs) := HD2.out.below al
    have HBW : Hid (Below w.heap.size w W) := belowCall HB2.out al HB2.out.size
    have HRW : Hid (Rd .i64 W (.slice (some ⟨w2.heap.size, 0, none⟩) 9 9) [0, 16, -16, 256, 32767, -32767, 32768, -32768, 8]) := by
      have := Rd.lit w2 [0, 16, -16, 256, 32767, -32767, 32768, -32768, 8] (by simp)
      rw [← hW]; exact this
    have HAP : Hid ((Value.slice (some ⟨w2.heap.size, 0, none⟩) 9 9).ownBlock = none ∨ (Value.slice (some ⟨w2.heap.size, 0, none⟩) 9 9).ownBlock ≠ some g) := by
      right; have := HD2.out.lt; simp [Value.ownBlock]; omega
    clear al
    go_wp2_with (fail)
    refine (pickInt_c _ _ _ _ [0, 16, -16, 256, 32767, -32767, 32768, -32768, 8] _ HDW.out HRW.out HAP.out (by simp) (by simp)).mono ?_
    rintro e w3 ⟨x, rfl, ⟨k, hk, hx⟩, d3, g3⟩
    have HB3 : Hid (Below w.heap.size w w3) := HBW.out.trans (grown_below g3 HBW.out.size (fun k e => by have := HG.out; have := Option.some.inj e; omega))
    have hx2 : -32768 ≤ x ∧ x ≤ 32768 := by
      rw [hx]
      have hk' : k < 9 := hk
      have key : ∀ k, k < 9 → (-32768 : Int) ≤ ([0, 16, -16, 256, 32767, -32767, 32768, -32768, 8] : List Int).getD k 0 ∧ ([0, 16, -16, 256, 32767, -32767, 32768, -32768, 8] : List Int).getD k 0 ≤ 32768 := by decide
      exact key k hk'
    clear d3 g3 hx hk
    go_wp2
    go_ret
    exact ⟨_, rfl, hx2.1, hx2.2, HB3.out⟩
/-- what a number stands for is told by it again -/
theorem nl_self (b : Nat) (hb : b < 128) : Nl (lw b) b := by
  refine ⟨by omega, fun k hk => ?_, ?_⟩
  · have h1 := lw_lt (show k < k + 1 by omega) (by omega)
    have h2 := lw_le (show k + 1 ≤ b by omega) (by omega)
    omega
  · by_cases e : b = 127
    · exact .inl e
    · have := lw_step b (by omega); exact .inr (by omega)
theorem tl_self (b v : Int) (hb : 0 ≤ b ∧ b ≤ 255) (h : Tl (fl b) v) : v = b := by
  obtain ⟨k, rfl⟩ := Int.eq_ofNat_of_zero_le hb.1
  by_cases c : k < 128
  · have hp := lw_pos k c
    rw [fl_lo k c] at h
    obtain ⟨n, rfl, hn⟩ := h.2.1 (by omega)
    rw [hn.uniq (nl_self k c)]
  · have hp := lw_pos (k - 128) (by omega)
    rw [fl_up k (by omega) (by omega)] at h
    obtain ⟨n, rfl, hn⟩ := h.2.2 (by omega)
    rw [Int.neg_neg] at hn
    have := hn.uniq (nl_self (k - 128) (by omega))
    omega
theorem nl_hi : ∀ n, n < 127 → (lw n + lw (n + 1)) / 2 - lw n ≤ (lw n + lw (n + 1)) / 2 / 16 + 8 := by decide +kernel
theorem nl_lo : ∀ n, n < 127 → lw (n + 1) - ((lw n + lw (n + 1)) / 2 + 1) ≤ ((lw n + lw (n + 1)) / 2 + 1) / 16 + 8 := by decide +kernel
theorem lw127 : lw 127 = 32256 := by decide
/-- off by no more than a 16th, and 8 -/
theorem nl_off (L : Int) (n : Nat) (hL : 0 ≤ L ∧ L ≤ 32767) (h : Nl L n) : szf (lw n - L) ≤ L / 16 + 8 := by
  have hle := h.le
  by_cases c : lw n - L < 0
  · rw [(szf_eq _).1 c]
    rcases h.hi with e | e
    · subst e; rw [lw127] at c ⊢; omega
    · by_cases e' : n = 127
      · subst e'; rw [lw127] at c ⊢; omega
      · have := nl_hi n (by omega)
        generalize lw n = a at *
        generalize lw (n + 1) = b at *
        omega
  · rw [(szf_eq _).2 (by omega)]
    rcases Nat.eq_zero_or_pos n with e | e
    · subst e; rw [lw0] at c ⊢; omega
    · have h1 := h.lo (n - 1) (by omega)
      have h2 := nl_lo (n - 1) (by omega)
      have e1 : n - 1 + 1 = n := by omega
      rw [e1] at h1 h2
      generalize lw n = a at *
      generalize lw (n - 1) = b at *
      omega
theorem tl_off (x v : Int) (hx : -32767 ≤ x ∧ x ≤ 32767) (h : Tl x v) : szf (fl v - x) ≤ szf x / 16 + 8 := by
  by_cases c : 0 ≤ x
  · obtain ⟨n, rfl, hn⟩ := h.2.1 ⟨c, hx.2⟩
    have := hn.le
    rw [fl_lo n (by omega), (szf_eq x).2 c]
    exact nl_off x n ⟨c, hx.2⟩ hn
  · obtain ⟨n, rfl, hn⟩ := h.2.2 ⟨hx.1, by omega⟩
    have := hn.le
    rw [fl_hi n (by omega), (szf_eq x).1 (by omega)]
    have h1 := nl_off (-x) n ⟨by omega, by omega⟩ hn
    by_cases d : -lw n - x < 0
    · rw [(szf_eq _).1 d]; rw [(szf_eq _).2 (by omega)] at h1; omega
    · rw [(szf_eq _).2 (by omega)]
      by_cases d' : lw n - -x = 0
      · rw [(szf_eq _).2 (by omega)] at h1; omega
      · rw [(szf_eq _).1 (by omega)] at h1; omega
theorem fl255 : fl 255 = -32256 := by decide
theorem fl0 : fl 0 = 8 := by decide
set_option maxHeartbeats 3200000 in
theorem lawLaw (v : Value) (zs : List Int) (w : World) (h : Rd .u8 w v zs) (hwz : ∀ z ∈ zs, (Lit.int .u8 z).wf = true) : Calls Try.prog 3 #[v] w fun e w' => e = .returned (.bool true) ∧ Below w.heap.size w w' := by
  have HR : Hid (Rd .u8 w v zs) := h
  have HOK : Hid (∀ z ∈ zs, 0 ≤ z ∧ z ≤ 255) := fun z hm => bounds_u8 (hwz z hm)
  have HB : Hid (Below w.heap.size w w) := Below.refl _ _
  obtain ⟨a, cap, rfl, h1, h2, -⟩ := h
  clear hwz h1 h2
  by_cases hbig : (1048576 : Int) < (zs.length : Int)
  · have hbd : decide ((1048576 : Int) < (zs.length : Int)) = true := by simp; omega
    go_enter Try.func3, Try.ntmps3
    go_wp2_with (fail)
    refine (big_c _ zs _ HR.out).mono ?_
    rintro e w1 ⟨rfl, hw⟩
    rw [hbd, hw]
    clear hw
    go_wp2
    go_ret
    exact ⟨rfl, HB.out⟩
  have hbd : decide ((1048576 : Int) < (zs.length : Int)) = false := by simp; omega
  have HL : Hid (zs.length ≤ 1048576) := by show _ ≤ _; omega
  clear hbig
  go_enter Try.func3, Try.ntmps3
  go_wp2_with (fail)
  refine (big_c _ zs _ HR.out).mono ?_
  rintro e w1 ⟨rfl, hw⟩
  rw [hbd, hw]
  clear hw hbd
  go_wp2_with (fail)
  refine (at_c _ zs 0 _ HR.out HOK.out (by omega) (by omega) HL.out).mono ?_
  rintro e w1 ⟨b, rfl, b0, b1, hw⟩
  rw [hw]
  clear hw
  go_wp2_with (fail)
  refine (drawTo_c _ zs _ HR.out HOK.out HL.out).mono ?_
  rintro e W1 ⟨x, rfl, x0, x1, bb⟩
  have HB1 : Hid (Below w.heap.size w W1) := bb
  clear bb
  have hbb : (b != b) = false := by simp
  go_wp2_with (fail)
  refine (fromLawI_c _ _).mono ?_
  rintro e w2 ⟨rfl, hw⟩
  rw [hw]
  clear hw
  go_wp2_with (fail)
  refine (toLawI_c _ _).mono ?_
  rintro e W2 ⟨u, rfl, hu, bb⟩
  obtain rfl : u = b := tl_self b u ⟨b0, b1⟩ hu
  have HB2 : Hid (Below w.heap.size w W2) := belowCall HB1.out bb HB1.out.size
  clear bb hu HB1
  go_wp2_with (fail)
  refine (fromLawI_c _ _).mono ?_
  rintro e w3 ⟨rfl, hw⟩
  rw [hw, fl255]
  clear hw
  go_wp2_with (fail)
  refine (fromLawI_c _ _).mono ?_
  rintro e w4 ⟨rfl, hw⟩
  rw [hw, fl0]
  clear hw
  go_wp2_with (fail)
  refine (abs_c x (by omega) _).mono ?_
  rintro e w5 ⟨rfl, hw⟩
  rw [hw]
  clear hw
  obtain ⟨sx, hsx⟩ : ∃ s, szf x = s := ⟨_, rfl⟩
  have HSX : Hid (szf x = sx) := hsx
  have hsb : 0 ≤ sx ∧ sx ≤ 32768 ∧ (32767 < sx ↔ ¬ (-32767 ≤ x ∧ x ≤ 32767)) := by
    rw [← hsx]
    by_cases c : x < 0
    · rw [(szf_eq x).1 c]; omega
    · rw [(szf_eq x).2 (by omega)]; omega
  rw [hsx]
  clear hsx
  by_cases hout : 32767 < sx
  · have hod : decide (32767 < sx) = true := by simp; omega
    have HO : Hid (¬ (-32767 ≤ x ∧ x ≤ 32767)) := hsb.2.2.1 hout
    clear hsb
    go_wp2_with (fail)
    refine (toLawI_c _ _).mono ?_
    rintro e W3 ⟨u, rfl, hu, bb⟩
    obtain rfl : u = 0 := hu.1 HO.out
    have HB3 : Hid (Below w.heap.size w W3) := belowCall HB2.out bb HB2.out.size
    clear bb hu HB2
    go_wp2
    go_ret
    exact ⟨rfl, HB3.out⟩
  · have hod : decide (32767 < sx) = false := by simp; omega
    have hin : -32767 ≤ x ∧ x ≤ 32767 := by
      by_cases c : -32767 ≤ x ∧ x ≤ 32767
      · exact c
      · exact absurd (hsb.2.2.2 c) hout
    have hs0 := hsb.1
    have hs1 := hsb.2.1
    obtain ⟨i0, i1⟩ := hin
    clear hsb hout
    go_wp2_with (fail)
    refine (toLawI_c _ _).mono ?_
    rintro e W3 ⟨u, rfl, hu, bb⟩
    have HU : Hid (Tl x u) := hu
    have HB3 : Hid (Below w.heap.size w W3) := belowCall HB2.out bb HB2.out.size
    clear bb hu HB2
    go_wp2_with (fail)
    refine (fromLawI_c _ _).mono ?_
    rintro e w6 ⟨rfl, hw⟩
    rw [hw]
    clear hw
    obtain ⟨y, hy⟩ : ∃ y, fl u = y := ⟨_, rfl⟩
    have HOFF : Hid (szf (y - x) ≤ sx / 16 + 8) := by
      have := tl_off x u ⟨i0, i1⟩ HU.out
      rw [hy, HSX.out] at this; exact this
    have hyb := fl_bd u
    rw [hy] at hyb ⊢
    obtain ⟨y0, y1⟩ := hyb
    clear hy
    go_wp2_with (fail)
    refine (toLawI_c _ _).mono ?_
    rintro e W4 ⟨u', rfl, hu, bb⟩
    obtain rfl : u' = u := hu.uniq HU.out
    have HB4 : Hid (Below w.heap.size w W4) := belowCall HB3.out bb HB3.out.size
    clear bb hu HB3
    go_wp2_with (fail)
    refine (toLawM_c _ _).mono ?_
    rintro e W5 ⟨u2, rfl, hu, bb⟩
    obtain rfl : u' = u2 := HU.out.uniq hu
    have HB5 : Hid (Below w.heap.size w W5) := belowCall HB4.out bb HB4.out.size
    clear bb hu HB4
    have huu : (u' == u') = true := by simp
    go_wp2_with (fail)
    refine (abs_c (y - x) (by omega) _).mono ?_
    rintro e w7 ⟨rfl, hw⟩
    rw [hw]
    clear hw
    obtain ⟨p, hp⟩ : ∃ p, szf (y - x) = p := ⟨_, rfl⟩
    have hoff := HOFF.out
    rw [hp] at hoff ⊢
    clear hp
    go_wp2_with (fail)
    refine (abs_c x (by omega) _).mono ?_
    rintro e w8 ⟨rfl, hw⟩
    rw [hw, HSX.out]
    clear hw
    have hfd : decide (p ≤ sx / 16 + 8) = true := by simp; omega
    go_wp2
    go_ret
    exact ⟨rfl, HB5.out⟩
end Go.Proofs.Ytdphnkjmpogecaa
