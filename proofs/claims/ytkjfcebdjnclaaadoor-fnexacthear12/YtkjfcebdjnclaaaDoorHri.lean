/- The program hears packets; the table is as it was laid. -/
import Derived.Test.YtkjfcebdjnclaaaDoorHrm
import Derived.Test.YtkjfcebdjnclaaaDoorDet
import Derived.Deep.DeepCutAuto
namespace Go.Proofs.YtkjfcebdjnclaaaDoor
open Go.RowKit Go.ChangeShapes Go.WideShapes Go.ChangeAt
set_option linter.unusedVariables false
set_option linter.unusedSimpArgs false
set_option maxRecDepth 8000
structure Re (Wd : World) (R : Nat) (G : Nat) (p : Pl) (ax : Option Addr) (sq9 : List Pk) (cx : Nat) (au : Option Addr) (zs9 : List Int) (cu : Nat) (bb : Bool) (B0 : Nat) (d : Nat → Bool) (W : World) (v0 v1 v2 v3 v4 v5 v6 : Value)  : Prop where
  bel : Below R Wd W
  g : Blk W G (hsA p (.slice ax sq9.length cx) (.slice au zs9.length cu) bb) 88
  f0 : d 0 = true → v0 = .pointer (some ⟨G, 6, none⟩)
  f1 : d 1 = true → v1 = .slice au zs9.length cu
  f2 : d 2 = true → v2 = .pointer (some ⟨G, 0, none⟩)
  f3 : d 3 = true → v3 = .agg (plA p (.slice ax sq9.length cx))
  f4 : d 4 = true → v4 = .slice au zs9.length cu
  f6 : d 6 = true → v6 = .bool true
  kz : d 5 = false → Blk W R (plA ⟨0, 0, 0, 0, 0⟩ (.slice none 0 0)) 42
  k5 : d 5 = true → Blk W R (plA p (.slice ax sq9.length cx)) 42
  og : Og 18 pkC 40 B0 W (.slice ax sq9.length cx) sq9
  ow : Ow .i64 3 B0 W (.slice au zs9.length cu) zs9
def ReS (Wd : World) (R : Nat) (G : Nat) (p : Pl) (ax : Option Addr) (sq9 : List Pk) (cx : Nat) (au : Option Addr) (zs9 : List Int) (cu : Nat) (bb : Bool) (B0 : Nat) (d : Nat → Bool) (q : List Value) (W : World) : Prop := ∃ v0 v1 v2 v3 v4 v5 v6 , q = [v0, v1, v2, v3, v4, v5, v6] ∧ Re Wd R G p ax sq9 cx au zs9 cu bb B0 d W v0 v1 v2 v3 v4 v5 v6 

set_option maxHeartbeats 12800000 in
theorem hearI_c (v : Value) (ls : List Pk) (dp n : Int) (w : World) (h : Rg 18 pkC w v ls) (hG : ChG w) (hb : ∀ k ∈ ls, PkBy k) : Calls Tryd.prog 26 #[v, .int .i64 dp, .int .i64 n] w (HrR (hrF ls dp n) w) := by
  have HR : Hid (Rg 18 pkC w v ls) := h
  have hpos : 0 < w.heap.size := World.block_lt_of_cell? w _ (hG 0 (by omega))
  have HCG : Hid (∀ W', Below w.heap.size w W' → ChG W') := fun W' h => hG.below' hpos h
  have HPB : Hid (∀ k ∈ ls, PkBy k) := hb
  obtain ⟨a, c, rfl, h1, h2, h3⟩ := h
  unfold maxLen at h2
  have H3 : Hid (ls = [] ∨ ∃ b off, a = some ⟨b, off, none⟩ ∧ ∀ i (h : i < ls.length), w.rangeAt b (off + i * 18) (pkC ls[i])) := h3
  obtain ⟨R, hR⟩ : ∃ R, w.heap.size = R := ⟨_, rfl⟩
  obtain ⟨W0, hW0⟩ : ∃ W, w.alloc (.cells (plA ⟨0, 0, 0, 0, 0⟩ (.slice none 0 0)) 42) = W := ⟨_, rfl⟩
  have HB0 : Hid (Below w.heap.size w W0) := by rw [← hW0]; exact (Below.refl _ _).alloc (Nat.le_refl _) _
  have HZ0 : Hid (Blk W0 R (plA ⟨0, 0, 0, 0, 0⟩ (.slice none 0 0)) 42) := by rw [← hW0, ← hR]; exact Blk.new _ _ _
  have HW0 : Hid (w.alloc (.cells (plA ⟨0, 0, 0, 0, 0⟩ (.slice none 0 0)) 42) = W0 ∧ w.heap.size = R) := ⟨hW0, hR⟩
  have HPO : Hid (0 < w.heap.size) := hpos
  clear hG hb h3 hW0 hR hpos
  go_enter Tryd.func26, Tryd.ntmps26
  go_wp2_with (fail)
  rw [HW0.out.1, HW0.out.2]
  refine (pksI_c _ ls W0 (HR.out.below HB0.out)).mono ?_
  rintro e w1 ⟨r1, rfl, hr1, b1⟩
  have HB1 : Hid (Below w.heap.size w w1) := belowCall HB0.out b1 HB0.out.size
  have HZ1 : Hid (Blk w1 R (plA ⟨0, 0, 0, 0, 0⟩ (.slice none 0 0)) 42) := HZ0.out.below b1 HZ0.out.lt
  have HP1 : Hid (r1 = true ↔ PksP ls) := hr1
  clear hr1 b1 HB0 HZ0
  cases r1 with
  | false =>
    have HN : Hid (hrF ls dp n = none) := by
      unfold hrF; exact if_neg (fun hq => by have := HP1.out.2 hq.1; cases this)
    go_wp2_with (refine wpList_store_row rfl 42 _ _ rfl R (plA ⟨0, 0, 0, 0, 0⟩ (.slice none 0 0)) rfl rfl 42 (plA ⟨0, 0, 0, 0, 0⟩ (.slice none 0 0)) HZ1.out (by kernel_rfl) rfl (by simp [Value.oneCell']) ?_)
    exact bodyPost_ret (v := .tuple #[.slice none 0 0, .agg (plA ⟨0, 0, 0, 0, 0⟩ (.slice none 0 0)), .bool false]) (results_H3 rfl _ _ R _ _ _ _ rfl rfl rfl (HZ1.out.row _)) rfl ⟨belowRow HB1.out _ (Nat.le_of_eq HW0.out.2) _, fun _ => rfl, fun h e => by rw [HN.out] at e; cases e⟩
  | true =>
    go_wp2_with (fail)
    refine (ticks_c _ ls w1 (HR.out.below HB1.out)).mono ?_
    rintro e w2 ⟨r2, rfl, hr2, b2⟩
    have HB2 : Hid (Below w.heap.size w w2) := belowCall HB1.out b2 HB1.out.size
    have HZ2 : Hid (Blk w2 R (plA ⟨0, 0, 0, 0, 0⟩ (.slice none 0 0)) 42) := HZ1.out.below b2 HZ1.out.lt
    have HP2 : Hid (r2 = true ↔ TkP ls) := hr2
    clear hr2 b2 HB1 HZ1
    cases r2 with
    | false =>
      have HN : Hid (hrF ls dp n = none) := by
        unfold hrF; exact if_neg (fun hq => by have := HP2.out.2 hq.2.1; cases this)
      go_wp2_with (refine wpList_store_row rfl 42 _ _ rfl R (plA ⟨0, 0, 0, 0, 0⟩ (.slice none 0 0)) rfl rfl 42 (plA ⟨0, 0, 0, 0, 0⟩ (.slice none 0 0)) HZ2.out (by kernel_rfl) rfl (by simp [Value.oneCell']) ?_)
      exact bodyPost_ret (v := .tuple #[.slice none 0 0, .agg (plA ⟨0, 0, 0, 0, 0⟩ (.slice none 0 0)), .bool false]) (results_H3 rfl _ _ R _ _ _ _ rfl rfl rfl (HZ2.out.row _)) rfl ⟨belowRow HB2.out _ (Nat.le_of_eq HW0.out.2) _, fun _ => rfl, fun h e => by rw [HN.out] at e; cases e⟩
    | true =>
    go_wp2_with (fail)
    refine (within_c _ _ _ _).mono ?_
    rintro e w3 ⟨rfl, hw⟩
    rw [hw]
    clear hw w3
    by_cases hd : 1 ≤ dp ∧ dp ≤ 12
    case neg =>
      have d3 : decide (1 ≤ dp ∧ dp ≤ 12) = false := decide_eq_false hd
      have HD : Hid (¬ (1 ≤ dp ∧ dp ≤ 12)) := hd
      clear hd
      have HN : Hid (hrF ls dp n = none) := by
        unfold hrF; exact if_neg (fun hq => HD.out hq.2.2.1)
      go_wp2_with (refine wpList_store_row rfl 42 _ _ rfl R (plA ⟨0, 0, 0, 0, 0⟩ (.slice none 0 0)) rfl rfl 42 (plA ⟨0, 0, 0, 0, 0⟩ (.slice none 0 0)) HZ2.out (by kernel_rfl) rfl (by simp [Value.oneCell']) ?_)
      exact bodyPost_ret (v := .tuple #[.slice none 0 0, .agg (plA ⟨0, 0, 0, 0, 0⟩ (.slice none 0 0)), .bool false]) (results_H3 rfl _ _ R _ _ _ _ rfl rfl rfl (HZ2.out.row _)) rfl ⟨belowRow HB2.out _ (Nat.le_of_eq HW0.out.2) _, fun _ => rfl, fun h e => by rw [HN.out] at e; cases e⟩
    have d3 : decide (1 ≤ dp ∧ dp ≤ 12) = true := decide_eq_true hd
    have HD : Hid (1 ≤ dp ∧ dp ≤ 12) := hd
    clear hd
    go_wp2_with (fail)
    refine (within_c _ _ _ _).mono ?_
    rintro e w3 ⟨rfl, hw⟩
    rw [hw]
    clear hw w3
    by_cases hd : 0 ≤ n ∧ n ≤ 60
    case neg =>
      have d4 : decide (0 ≤ n ∧ n ≤ 60) = false := decide_eq_false hd
      have HDN : Hid (¬ (0 ≤ n ∧ n ≤ 60)) := hd
      clear hd
      have HN : Hid (hrF ls dp n = none) := by
        unfold hrF; exact if_neg (fun hq => HDN.out hq.2.2.2)
      go_wp2_with (refine wpList_store_row rfl 42 _ _ rfl R (plA ⟨0, 0, 0, 0, 0⟩ (.slice none 0 0)) rfl rfl 42 (plA ⟨0, 0, 0, 0, 0⟩ (.slice none 0 0)) HZ2.out (by kernel_rfl) rfl (by simp [Value.oneCell']) ?_)
      exact bodyPost_ret (v := .tuple #[.slice none 0 0, .agg (plA ⟨0, 0, 0, 0, 0⟩ (.slice none 0 0)), .bool false]) (results_H3 rfl _ _ R _ _ _ _ rfl rfl rfl (HZ2.out.row _)) rfl ⟨belowRow HB2.out _ (Nat.le_of_eq HW0.out.2) _, fun _ => rfl, fun h e => by rw [HN.out] at e; cases e⟩
    have d4 : decide (0 ≤ n ∧ n ≤ 60) = true := decide_eq_true hd
    have HPK : Hid (HrP ls dp n) := ⟨HP1.out.1 (by first | rfl | trivial), HP2.out.1 (by first | rfl | trivial), HD.out, hd⟩
    have HLN : Hid (1 ≤ ls.length ∧ ls.length ≤ 60) := HPK.out.1.1
    have hl1 : 0 < ls.length := by have := HLN.out; omega
    obtain ⟨b, off, rfl, h4⟩ : ∃ b off, a = some ⟨b, off, none⟩ ∧ ∀ i (h : i < ls.length), w.rangeAt b (off + i * 18) (pkC ls[i]) := by
      rcases H3.out with h3 | h3
      · rw [h3] at hl1; simp at hl1
      · exact h3
    have hcb : b < w.heap.size := block_lt_of_cell (h4 0 hl1 0 _ rfl)
    have HRA : Hid (∀ W', Below w.heap.size w W' → ∀ i (h : i < ls.length), W'.rangeAt b (off + i * 18) (pkC ls[i])) := fun W' hW i h => rangeAt_below (h4 i h) hW hcb
    obtain ⟨s0, hs0⟩ : ∃ z, ls[0].s = z := ⟨_, rfl⟩
    have hs2 : w2.cell? ⟨b, off + 1, none⟩ = some (.int .i64 s0) := by
      have := (rg_mid (HRA.out w2 HB2.out 0 hl1)).2.1
      rw [hs0] at this; simpa using this
    have HS0 : Hid (h0F ls dp = ⟨⟨s0, dp, 0, 0, 0⟩, [], [], false⟩) := by show _ = _; unfold h0F; rw [kAt_eq hl1, hs0]
    obtain ⟨G, hG⟩ : ∃ G, w2.heap.size = G := ⟨_, rfl⟩
    obtain ⟨W3, hW3⟩ : ∃ W, w2.alloc (.cells (hsA ⟨0, 0, 0, 0, 0⟩ (.slice none 0 0) (.slice none 0 0) false) 88) = W := ⟨_, rfl⟩
    obtain ⟨W4, hW4⟩ : ∃ W, W3.setRow G (hsA ⟨s0, dp, 0, 0, 0⟩ (.slice none 0 0) (.slice none 0 0) false) = W := ⟨_, rfl⟩
    have K3 : Blk W3 G (hsA ⟨0, 0, 0, 0, 0⟩ (.slice none 0 0) (.slice none 0 0) false) 88 := by rw [← hW3, ← hG]; exact Blk.new _ _ _
    have B3 : Below w2.heap.size w2 W3 := by rw [← hW3]; exact (Below.refl _ _).alloc (Nat.le_refl _) _
    have K4 : Blk W4 G (hsA ⟨s0, dp, 0, 0, 0⟩ (.slice none 0 0) (.slice none 0 0) false) 88 := by rw [← hW4]; exact K3.row _
    have B4 : Below w2.heap.size w2 W4 := by rw [← hW4]; exact belowRow B3 _ (by omega) _
    have HGE : Hid (w.heap.size ≤ G ∧ R < G) := ⟨by rw [← hG]; exact HB2.out.size, by have := HZ2.out.lt; omega⟩
    have HO4 : Hid (HsO G G W4 (h0F ls dp)) := by
      show HsO _ _ _ _
      rw [HS0.out]; exact ⟨_, _, K4, Og.nil 18 pkC 40 G W4, Ow.nil .i64 3 G W4, Nat.le_refl _⟩
    have HB4 : Hid (Below w.heap.size w W4) := belowCall HB2.out B4 HB2.out.size
    have HZ4 : Hid (Blk W4 R (plA ⟨0, 0, 0, 0, 0⟩ (.slice none 0 0)) 42) := HZ2.out.below B4 HZ2.out.lt
    have HK3 : Hid (Blk W3 G (hsA ⟨0, 0, 0, 0, 0⟩ (.slice none 0 0) (.slice none 0 0) false) 88) := K3
    have HW3 : Hid (w2.alloc (.cells (hsA ⟨0, 0, 0, 0, 0⟩ (.slice none 0 0) (.slice none 0 0) false) 88) = W3 ∧ w2.heap.size = G ∧ W3.setRow G (hsA ⟨s0, dp, 0, 0, 0⟩ (.slice none 0 0) (.slice none 0 0) false) = W4) := ⟨hW3, hG, hW4⟩
    clear hW3 hG hW4 K3 B3 K4 B4 HB2 HZ2 hs0 HP1 HP2 HD h4
    go_wp2_with ((rw [HW3.out.1, HW3.out.2.1]; refine wpList_store_row rfl 88 _ _ rfl G (hsA ⟨s0, dp, 0, 0, 0⟩ (.slice none 0 0) (.slice none 0 0) false) rfl rfl 88 (hsA ⟨0, 0, 0, 0, 0⟩ (.slice none 0 0) (.slice none 0 0) false) HK3.out (by kernel_rfl) rfl (by simp [Value.oneCell']) ?_; rw [HW3.out.2.2]))
    clear HW3 HK3 hs2
    go_loopw [40] (fun i wr => ∃ (j : Nat) (h : HSt), i = .int .i64 j ∧ Hid (j ≤ ls.length) ∧ Hid (cmN ls (h0F ls dp) j = some h) ∧ Hid (HsO G G wr h) ∧ Hid (HsB h (2 * j)) ∧ Hid (Below w.heap.size w wr) ∧ Hid (Blk wr R (plA ⟨0, 0, 0, 0, 0⟩ (.slice none 0 0)) 42)) (fun i _ => ls.length - (intOf i).toNat)
    case atStart => exact ⟨0, _, rfl, Nat.zero_le _, rfl, HO4.out, ⟨Nat.zero_le _, Nat.zero_le _, fun x hx => by cases hx⟩, HB4.out, HZ4.out⟩
    case round =>
      obtain ⟨j, h, rfl, hj, hN, hO, hB, hbr, hZr⟩ := hrel
      clear HO4 HB4 HZ4
      by_cases hlt : j < ls.length
      case pos =>
        obtain ⟨k, hk⟩ : ∃ k, ls[j] = k := ⟨_, rfl⟩
        have HKA : Hid (kAt ls j = k ∧ PkBy k) := ⟨by rw [kAt_eq hlt, hk], HPB.out k (by rw [← hk]; exact List.getElem_mem hlt)⟩
        have HRM : Hid (wr.rangeAt b (off + j * 18) (pkC k)) := by rw [← hk]; exact HRA.out wr hbr.out j hlt
        obtain ⟨W2, hW2⟩ : ∃ W, bxW wr k = W := ⟨_, rfl⟩
        have k2 : Blk W2 wr.heap.size (pkA k) 40 := by rw [← hW2]; exact bxW_blk wr k
        have b2 : Below wr.heap.size wr W2 := by rw [← hW2]; exact bxW_below wr k
        have HZ : Hid (Blk (wr.alloc (Obj.cells #[.int .i64 0, .int .i64 0, .int .u8 0, .int .u8 0, .int .u8 0, .int .u8 0, .int .u8 0, .int .u8 0, .int .u8 0, .int .u8 0, .int .u8 0, .int .u8 0, .int .u8 0, .int .u8 0, .int .u8 0, .int .u8 0, .int .u8 0, .int .u8 0] 40)) wr.heap.size #[.int .i64 0, .int .i64 0, .int .u8 0, .int .u8 0, .int .u8 0, .int .u8 0, .int .u8 0, .int .u8 0, .int .u8 0, .int .u8 0, .int .u8 0, .int .u8 0, .int .u8 0, .int .u8 0, .int .u8 0, .int .u8 0, .int .u8 0, .int .u8 0] 40) := Blk.new _ _ _
        have HW2 : Hid ((wr.alloc (Obj.cells #[.int .i64 0, .int .i64 0, .int .u8 0, .int .u8 0, .int .u8 0, .int .u8 0, .int .u8 0, .int .u8 0, .int .u8 0, .int .u8 0, .int .u8 0, .int .u8 0, .int .u8 0, .int .u8 0, .int .u8 0, .int .u8 0, .int .u8 0, .int .u8 0] 40)).setRow wr.heap.size (pkA k) = W2) := hW2
        have HK2 : Hid (Blk W2 wr.heap.size (pkA k) 40) := k2
        have HB2 : Hid (Below w.heap.size w W2) := belowCall hbr.out b2 hbr.out.size
        have HZ2 : Hid (Blk W2 R (plA ⟨0, 0, 0, 0, 0⟩ (.slice none 0 0)) 42) := hZr.out.below b2 hZr.out.lt
        have HO2 : Hid (HsO G G W2 h) := by
          obtain ⟨x, y, q1, q2, q3, q4⟩ := hO.out
          exact ⟨x, y, q1.below b2 q1.lt, q2.below b2, q3.below b2, q4⟩
        have hi : (0 : Int) ≤ (j : Int) := by omega
        have hi2 : (j : Int) < (ls.length : Int) := by omega
        clear hk hW2 k2 b2 hO hbr hZr
        go_wp2_with (first | refine ldM rfl _ rfl b (off + j * 18) rfl k HRM.out ?_ | (refine stP rfl _ _ rfl wr.heap.size rfl k rfl 40 _ HZ.out rfl ?_; rw [HW2.out]) | refine ldP rfl _ rfl wr.heap.size rfl 40 k HK2.out ?_)
        refine (cm_c HO2.out hB.out (by have := HLN.out; omega) HKA.out.2 (by have := HGE.out; have := HPO.out; omega) (HCG.out W2 HB2.out)).mono ?_
        rintro e W5 ⟨b5, rfl, h5⟩
        have HB5 : Hid (Below w.heap.size w W5) := HB2.out.trans (b5.mono HGE.out.1)
        have HZ5 : Hid (Blk W5 R (plA ⟨0, 0, 0, 0, 0⟩ (.slice none 0 0)) 42) := HZ2.out.below b5 HGE.out.2
        have HX5 : Hid (∀ x, cmF h k = some x → HsO G G W5 x) := h5
        have HN5 : Hid (cmN ls (h0F ls dp) (j + 1) = cmF h k) := by
          show cmN _ _ _ = _
          rw [cmN, hN.out, ← HKA.out.1]; rfl
        clear b5 h5 HO2 HB2 HZ2 HK2 HW2 HZ HRM
        obtain ⟨oc, hoc⟩ : ∃ x, cmF h k = x := ⟨_, rfl⟩
        have HOC : Hid (cmF h k = oc) := hoc
        rw [hoc]
        clear hoc
        cases oc with
        | none =>
          have e5 : (none : Option HSt).isSome = false := rfl
          rw [e5]
          clear e5
          have HN : Hid (hrF ls dp n = none) := by
            unfold hrF; rw [if_pos HPK.out, cmN_none (HN5.out.trans HOC.out) ls.length (by omega)]; rfl
          go_wp2_with (refine wpList_store_row rfl 42 _ _ rfl R (plA ⟨0, 0, 0, 0, 0⟩ (.slice none 0 0)) rfl rfl 42 (plA ⟨0, 0, 0, 0, 0⟩ (.slice none 0 0)) HZ5.out (by kernel_rfl) rfl (by simp [Value.oneCell']) ?_)
          exact bodyPost_ret (v := .tuple #[.slice none 0 0, .agg (plA ⟨0, 0, 0, 0, 0⟩ (.slice none 0 0)), .bool false]) (results_H3 rfl _ _ R _ _ _ _ rfl rfl rfl (HZ5.out.row _)) rfl ⟨belowRow HB5.out _ (Nat.le_of_eq HW0.out.2) _, fun _ => rfl, fun h e => by rw [HN.out] at e; cases e⟩
        | some h' =>
          have e5 : (some h').isSome = true := rfl
          rw [e5]
          clear e5
          have HBN : Hid (HsB h' (2 * (j + 1))) := hB.out.cm HKA.out.2 HOC.out
          have HXN : Hid (HsO G G W5 h') := HX5.out h' HOC.out
          have HNN : Hid (cmN ls (h0F ls dp) (j + 1) = some h') := HN5.out.trans HOC.out
          clear HX5 HN5 HOC hB hN
          go_wp2
          go_roundw
          case rel => exact ⟨j + 1, h', by go_num, (by show _ ≤ _; omega), HNN.out, HXN.out, HBN.out, HB5.out, HZ5.out⟩
          case measure => simp [intOf]; omega
      case neg =>
      obtain rfl : j = ls.length := by have := hj.out; omega
      go_wp2
      go_loopw [50] (fun i wq => ∃ (j : Nat) (h' : HSt), i = .int .i64 j ∧ Hid ((j : Int) ≤ n) ∧ Hid (poN h j = some h') ∧ Hid (HsO G G wq h') ∧ Hid (HsB h' (120 + j)) ∧ Hid (Below w.heap.size w wq) ∧ Hid (Blk wq R (plA ⟨0, 0, 0, 0, 0⟩ (.slice none 0 0)) 42)) (fun i _ => n.toNat - (intOf i).toNat)
      case atStart => exact ⟨0, h, rfl, HPK.out.2.2.2.1, rfl, hO.out, ⟨by have := hB.out.st; have := HLN.out; omega, by have := hB.out.lv; have := HLN.out; omega, hB.out.by'⟩, hbr.out, hZr.out⟩
      case round =>
        obtain ⟨j, h', rfl, hj2, hN2, hO2, hB2, hb2, hZ2⟩ := hrel
        clear hO hB hbr hZr
        have hjn := hj2.out
        have hn60 := HPK.out.2.2.2.2
        by_cases hlt2 : (j : Int) < n
        case pos =>
          go_wp2_with (fail)
          refine (po_c hO2.out hB2.out (by omega) (HCG.out _ hb2.out)).mono ?_
          rintro e W5 ⟨b5, rfl, h5⟩
          have HB5 : Hid (Below w.heap.size w W5) := hb2.out.trans (b5.mono HGE.out.1)
          have HZ5 : Hid (Blk W5 R (plA ⟨0, 0, 0, 0, 0⟩ (.slice none 0 0)) 42) := hZ2.out.below b5 HGE.out.2
          have HX5 : Hid (∀ x, poF h' = some x → HsO G G W5 x) := h5
          have HN5 : Hid (poN h (j + 1) = poF h') := by
            show poN _ _ = _
            rw [poN, hN2.out]; rfl
          clear b5 h5 hO2 hb2 hZ2
          obtain ⟨oc, hoc⟩ : ∃ x, poF h' = x := ⟨_, rfl⟩
          have HOC : Hid (poF h' = oc) := hoc
          rw [hoc]
          clear hoc
          cases oc with
          | none =>
            have e5 : (none : Option HSt).isSome = false := rfl
            rw [e5]
            clear e5
            have HN : Hid (hrF ls dp n = none) := by
              unfold hrF; rw [if_pos HPK.out, hN.out]; exact poN_none (HN5.out.trans HOC.out) n.toNat (by omega)
            go_wp2_with (refine wpList_store_row rfl 42 _ _ rfl R (plA ⟨0, 0, 0, 0, 0⟩ (.slice none 0 0)) rfl rfl 42 (plA ⟨0, 0, 0, 0, 0⟩ (.slice none 0 0)) HZ5.out (by kernel_rfl) rfl (by simp [Value.oneCell']) ?_)
            exact bodyPost_ret (v := .tuple #[.slice none 0 0, .agg (plA ⟨0, 0, 0, 0, 0⟩ (.slice none 0 0)), .bool false]) (results_H3 rfl _ _ R _ _ _ _ rfl rfl rfl (HZ5.out.row _)) rfl ⟨belowRow HB5.out _ (Nat.le_of_eq HW0.out.2) _, fun _ => rfl, fun h e => by rw [HN.out] at e; cases e⟩
          | some h9 =>
            have e5 : (some h9).isSome = true := rfl
            rw [e5]
            clear e5
            have HBN : Hid (HsB h9 (120 + (j + 1))) := hB2.out.po HOC.out
            have HXN : Hid (HsO G G W5 h9) := HX5.out h9 HOC.out
            have HNN : Hid (poN h (j + 1) = some h9) := HN5.out.trans HOC.out
            clear HX5 HN5 HOC hB2 hN2
            go_wp2
            go_roundw
            case rel => exact ⟨j + 1, h9, by go_num, (by show _ ≤ _; omega), HNN.out, HXN.out, HBN.out, HB5.out, HZ5.out⟩
            case measure => simp [intOf]; omega
        case neg =>
          obtain ⟨q, s, lv, bb⟩ := h'
          have HNE : Hid (hrF ls dp n = some ⟨q, s, lv, bb⟩) := by
            show _ = _
            unfold hrF
            rw [if_pos HPK.out, hN.out]
            have : n.toNat = j := by omega
            show poN h n.toNat = _
            rw [this]; exact hN2.out
          obtain ⟨x, y, q1, q2, q3, q4⟩ := hO2.out
          dsimp only at q1 q2 q3
          obtain ⟨ax, cx, rfl⟩ := q2.form
          obtain ⟨au, cu, rfl⟩ := q3.form'
          have HG4 : Hid (Blk wr.drew G (hsA q (.slice ax s.length cx) (.slice au lv.length cu) bb) 88) := q1.drew
          have HO4 : Hid (Og 18 pkC 40 G wr.drew (.slice ax s.length cx) s) := q2.below (Below.refl _ _).drew
          have HU4 : Hid (Ow .i64 3 G wr.drew (.slice au lv.length cu) lv) := q3.below (Below.refl _ _).drew
          have HZ4 : Hid (Blk wr.drew R (plA ⟨0, 0, 0, 0, 0⟩ (.slice none 0 0)) 42) := hZ2.out.drew
          have HRG : Hid (R < G) := HGE.out.2
          clear q1 q2 q3 q4 hO2 hB2 hN2 hZ2
          go_upto_region 15 with fail
          refine region_vals [undef, undef, undef, undef, undef, undef, undef] (ReS (wr.drew) (R) (G) (q) (ax) (s) (cx) (au) (lv) (cu) (bb) (G)) (by kernel_rfl) (by kernel_rfl) ?_ ⟨?_, ?_, ?_, ?_, ?_, ?_, ?_, trivial⟩ ?_
          · refine ⟨_, _, _, _, _, _, _, rfl, ⟨(Below.refl _ _), (HG4.out), ?_, ?_, ?_, ?_, ?_, ?_, (fun _ => HZ4.out), ?_, (HO4.out), (HU4.out)⟩⟩ <;> simp
          · rintro d vs W ⟨v0, v1, v2, v3, v4, v5, v6, rfl, H⟩ hn hd
            simp only [putAll, Act.put, List.setIfInBounds_toArray, List.set_cons_succ, List.set_cons_zero]
            have HH1 : Hid (Re (wr.drew) (R) (G) (q) (ax) (s) (cx) (au) (lv) (cu) (bb) (G) d W v0 v1 v2 v3 v4 v5 v6 ) := H
            clear H
            have HHN : Hid (d 0 = false) := hn
            clear hd hn
            go_wp2
            have H0 := HH1.out
            have H := HH1.out
            have hn := HHN.out
            refine ⟨rfl, [.pointer (some ⟨G, 6, none⟩), v1, v2, v3, v4, v5, v6], ?_, .pointer (some ⟨G, 6, none⟩), v1, v2, v3, v4, v5, v6, rfl, ⟨H.bel, H.g, (fun _ => rfl), (by have h := H.f1; simpa [doneSet] using h), (by have h := H.f2; simpa [doneSet] using h), (by have h := H.f3; simpa [doneSet] using h), (by have h := H.f4; simpa [doneSet] using h), (by have h := H.f6; simpa [doneSet] using h), (by have h := H.kz; simpa [doneSet] using h), (by have h := H.k5; simpa [doneSet] using h), H.og, H.ow⟩⟩
            simp only [putAll, Act.put, List.setIfInBounds_toArray, List.set_cons_succ, List.set_cons_zero]
            all_goals rfl
          · rintro d vs W ⟨v0, v1, v2, v3, v4, v5, v6, rfl, H⟩ hn hd
            simp only [putAll, Act.put, List.setIfInBounds_toArray, List.set_cons_succ, List.set_cons_zero]
            have h0 : d 0 = true := hd { on := 0, ground := .data } (by simp) rfl
            have x6 : W.cell? ⟨G, 6, none⟩ = some (.slice au lv.length cu) := by rw [H.g.cell]; rfl
            obtain rfl := H.f0 h0
            have HH1 : Hid (Re (wr.drew) (R) (G) (q) (ax) (s) (cx) (au) (lv) (cu) (bb) (G) d W (.pointer (some ⟨G, 6, none⟩)) v1 v2 v3 v4 v5 v6 ) := H
            clear H
            have HHN : Hid (d 1 = false) := hn
            have HHD : Hid (d 0 = true) := h0
            clear hd hn h0
            go_wp2
            have H0 := HH1.out
            have H := HH1.out
            have hn := HHN.out
            have h0 := HHD.out
            refine ⟨rfl, [.pointer (some ⟨G, 6, none⟩), .slice au lv.length cu, v2, v3, v4, v5, v6], ?_, .pointer (some ⟨G, 6, none⟩), .slice au lv.length cu, v2, v3, v4, v5, v6, rfl, ⟨H.bel, H.g, (fun _ => rfl), (fun _ => rfl), (by have h := H.f2; simpa [doneSet] using h), (by have h := H.f3; simpa [doneSet] using h), (by have h := H.f4; simpa [doneSet] using h), (by have h := H.f6; simpa [doneSet] using h), (by have h := H.kz; simpa [doneSet] using h), (by have h := H.k5; simpa [doneSet] using h), H.og, H.ow⟩⟩
            simp only [putAll, Act.put, List.setIfInBounds_toArray, List.set_cons_succ, List.set_cons_zero]
            all_goals rfl
          · rintro d vs W ⟨v0, v1, v2, v3, v4, v5, v6, rfl, H⟩ hn hd
            simp only [putAll, Act.put, List.setIfInBounds_toArray, List.set_cons_succ, List.set_cons_zero]
            have HH1 : Hid (Re (wr.drew) (R) (G) (q) (ax) (s) (cx) (au) (lv) (cu) (bb) (G) d W v0 v1 v2 v3 v4 v5 v6 ) := H
            clear H
            have HHN : Hid (d 2 = false) := hn
            clear hd hn
            go_wp2
            have H0 := HH1.out
            have H := HH1.out
            have hn := HHN.out
            refine ⟨rfl, [v0, v1, .pointer (some ⟨G, 0, none⟩), v3, v4, v5, v6], ?_, v0, v1, .pointer (some ⟨G, 0, none⟩), v3, v4, v5, v6, rfl, ⟨H.bel, H.g, (by have h := H.f0; simpa [doneSet] using h), (by have h := H.f1; simpa [doneSet] using h), (fun _ => rfl), (by have h := H.f3; simpa [doneSet] using h), (by have h := H.f4; simpa [doneSet] using h), (by have h := H.f6; simpa [doneSet] using h), (by have h := H.kz; simpa [doneSet] using h), (by have h := H.k5; simpa [doneSet] using h), H.og, H.ow⟩⟩
            simp only [putAll, Act.put, List.setIfInBounds_toArray, List.set_cons_succ, List.set_cons_zero]
            all_goals rfl
          · rintro d vs W ⟨v0, v1, v2, v3, v4, v5, v6, rfl, H⟩ hn hd
            simp only [putAll, Act.put, List.setIfInBounds_toArray, List.set_cons_succ, List.set_cons_zero]
            have h2 : d 2 = true := hd { on := 2, ground := .data } (by simp) rfl
            have HRM : Hid (W.rangeAt G 0 (plL q (.slice ax s.length cx))) := hs_range H.g
            obtain rfl := H.f2 h2
            have HH1 : Hid (Re (wr.drew) (R) (G) (q) (ax) (s) (cx) (au) (lv) (cu) (bb) (G) d W v0 v1 (.pointer (some ⟨G, 0, none⟩)) v3 v4 v5 v6 ) := H
            clear H
            have HHN : Hid (d 3 = false) := hn
            have HHD : Hid (d 2 = true) := h2
            clear hd hn h2
            go_wp2_with (refine wpList_load_mid rfl 42 _ rfl G 0 rfl (plL q (.slice ax s.length cx)) _ HRM.out Tryd.underlying42 rfl (by kernel_rfl) ?_)
            have H0 := HH1.out
            have H := HH1.out
            have hn := HHN.out
            have h2 := HHD.out
            refine ⟨rfl, [v0, v1, .pointer (some ⟨G, 0, none⟩), .agg (plA q (.slice ax s.length cx)), v4, v5, v6], ?_, v0, v1, .pointer (some ⟨G, 0, none⟩), .agg (plA q (.slice ax s.length cx)), v4, v5, v6, rfl, ⟨H.bel, H.g, (by have h := H.f0; simpa [doneSet] using h), (by have h := H.f1; simpa [doneSet] using h), (fun _ => rfl), (fun _ => rfl), (by have h := H.f4; simpa [doneSet] using h), (by have h := H.f6; simpa [doneSet] using h), (by have h := H.kz; simpa [doneSet] using h), (by have h := H.k5; simpa [doneSet] using h), H.og, H.ow⟩⟩
            simp only [putAll, Act.put, List.setIfInBounds_toArray, List.set_cons_succ, List.set_cons_zero]
            all_goals rfl
          · rintro d vs W ⟨v0, v1, v2, v3, v4, v5, v6, rfl, H⟩ hn hd
            simp only [putAll, Act.put, List.setIfInBounds_toArray, List.set_cons_succ, List.set_cons_zero]
            have h1 : d 1 = true := hd { on := 1, ground := .data } (by simp) rfl
            obtain rfl := H.f1 h1
            have HH1 : Hid (Re (wr.drew) (R) (G) (q) (ax) (s) (cx) (au) (lv) (cu) (bb) (G) d W v0 (.slice au lv.length cu) v2 v3 v4 v5 v6 ) := H
            clear H
            have HHN : Hid (d 4 = false) := hn
            have HHD : Hid (d 1 = true) := h1
            clear hd hn h1
            go_wp2
            have H0 := HH1.out
            have H := HH1.out
            have hn := HHN.out
            have h1 := HHD.out
            refine ⟨rfl, [v0, .slice au lv.length cu, v2, v3, .slice au lv.length cu, v5, v6], ?_, v0, .slice au lv.length cu, v2, v3, .slice au lv.length cu, v5, v6, rfl, ⟨H.bel, H.g, (by have h := H.f0; simpa [doneSet] using h), (fun _ => rfl), (by have h := H.f2; simpa [doneSet] using h), (by have h := H.f3; simpa [doneSet] using h), (fun _ => rfl), (by have h := H.f6; simpa [doneSet] using h), (by have h := H.kz; simpa [doneSet] using h), (by have h := H.k5; simpa [doneSet] using h), H.og, H.ow⟩⟩
            simp only [putAll, Act.put, List.setIfInBounds_toArray, List.set_cons_succ, List.set_cons_zero]
            all_goals rfl
          · rintro d vs W ⟨v0, v1, v2, v3, v4, v5, v6, rfl, H⟩ hn hd
            simp only [putAll, Act.put, List.setIfInBounds_toArray, List.set_cons_succ, List.set_cons_zero]
            have h3 : d 3 = true := hd { on := 3, ground := .data } (by simp) rfl
            have HKZ : Hid (Blk W R (plA ⟨0, 0, 0, 0, 0⟩ (.slice none 0 0)) 42) := H.kz hn
            obtain rfl := H.f3 h3
            have HH1 : Hid (Re (wr.drew) (R) (G) (q) (ax) (s) (cx) (au) (lv) (cu) (bb) (G) d W v0 v1 v2 (.agg (plA q (.slice ax s.length cx))) v4 v5 v6 ) := H
            clear H
            have HHN : Hid (d 5 = false) := hn
            have HHD : Hid (d 3 = true) := h3
            clear hd hn h3
            go_wp2_with (refine wpList_store_row rfl 42 _ _ rfl R (plA q (.slice ax s.length cx)) rfl rfl 42 (plA ⟨0, 0, 0, 0, 0⟩ (.slice none 0 0)) HKZ.out (by kernel_rfl) rfl (by simp [Value.oneCell']) ?_)
            have H0 := HH1.out
            have H := HH1.out
            have hn := HHN.out
            have h3 := HHD.out
            refine ⟨rfl, [v0, v1, v2, .agg (plA q (.slice ax s.length cx)), v4, undef, v6], ?_, v0, v1, v2, .agg (plA q (.slice ax s.length cx)), v4, undef, v6, rfl, ⟨(belowRow H0.bel _ (Nat.le_refl _) _), (H0.g.rowOther _ _ (by have := HRG.out; omega)), (by have h := H.f0; simpa [doneSet] using h), (by have h := H.f1; simpa [doneSet] using h), (by have h := H.f2; simpa [doneSet] using h), (fun _ => rfl), (by have h := H.f4; simpa [doneSet] using h), (by have h := H.f6; simpa [doneSet] using h), (fun e => absurd e (by simp [doneSet])), (fun _ => HKZ.out.row _), (World.ownsRow.kept H0.og (grown_setRow _ _ _) (.inr (og_ne H0.og HKZ.out (by decide)))), (World.ownsRow.kept H0.ow (grown_setRow _ _ _) (.inr (ow_ne H0.ow HKZ.out (by decide))))⟩⟩
            simp only [putAll, Act.put, List.setIfInBounds_toArray, List.set_cons_succ, List.set_cons_zero]
            all_goals rfl
          · rintro d vs W ⟨v0, v1, v2, v3, v4, v5, v6, rfl, H⟩ hn hd
            simp only [putAll, Act.put, List.setIfInBounds_toArray, List.set_cons_succ, List.set_cons_zero]
            have HH1 : Hid (Re (wr.drew) (R) (G) (q) (ax) (s) (cx) (au) (lv) (cu) (bb) (G) d W v0 v1 v2 v3 v4 v5 v6 ) := H
            clear H
            have HHN : Hid (d 6 = false) := hn
            clear hd hn
            go_wp2
            have H0 := HH1.out
            have H := HH1.out
            have hn := HHN.out
            refine ⟨rfl, [v0, v1, v2, v3, v4, v5, .bool true], ?_, v0, v1, v2, v3, v4, v5, .bool true, rfl, ⟨H.bel, H.g, (by have h := H.f0; simpa [doneSet] using h), (by have h := H.f1; simpa [doneSet] using h), (by have h := H.f2; simpa [doneSet] using h), (by have h := H.f3; simpa [doneSet] using h), (by have h := H.f4; simpa [doneSet] using h), (fun _ => rfl), (by have h := H.kz; simpa [doneSet] using h), (by have h := H.k5; simpa [doneSet] using h), H.og, H.ow⟩⟩
            simp only [putAll, Act.put, List.setIfInBounds_toArray, List.set_cons_succ, List.set_cons_zero]
            all_goals rfl
          rintro d vs W5 ⟨v0, v1, v2, v3, v4, v5, v6, rfl, H⟩ hn
          obtain rfl := H.f0 (hn 0 (by decide))
          obtain rfl := H.f1 (hn 1 (by decide))
          obtain rfl := H.f2 (hn 2 (by decide))
          obtain rfl := H.f3 (hn 3 (by decide))
          obtain rfl := H.f4 (hn 4 (by decide))
          obtain rfl := H.f6 (hn 6 (by decide))
          have HEE : Hid (Below w.heap.size w W5) := hb2.out.drew.trans (H.bel.mono (Nat.le_of_eq HW0.out.2))
          have HK5 : Hid (Blk W5 R (plA q (.slice ax s.length cx)) 42) := H.k5 (hn 5 (by decide))
          have HO5 : Hid (Og 18 pkC 40 w.heap.size W5 (.slice ax s.length cx) s) := Og.mono H.og HGE.out.1
          have HU5 : Hid (Ow .i64 3 w.heap.size W5 (.slice au lv.length cu) lv) := Ow.mono H.ow HGE.out.1
          clear H hn
          simp only [putAll, Act.put, List.setIfInBounds_toArray, List.set_cons_succ, List.set_cons_zero]
          go_wp2
          exact bodyPost_ret (v := .tuple #[.slice au lv.length cu, .agg (plA q (.slice ax s.length cx)), .bool true]) (results_H3 rfl _ _ R _ _ _ _ rfl rfl rfl HK5.out) rfl ⟨HEE.out, fun e => (by rw [HNE.out] at e; cases e), fun h e => (by rw [HNE.out] at e; cases e; exact ⟨_, _, rfl, HU5.out, HO5.out⟩)⟩

end Go.Proofs.YtkjfcebdjnclaaaDoor
