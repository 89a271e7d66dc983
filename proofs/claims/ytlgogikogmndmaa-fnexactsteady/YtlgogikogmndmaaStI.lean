/- The program on how unsteady packets are; no condition. -/
import Derived.Test.YtlgogikogmndmaaStd
namespace Go.Proofs.Ytlgogikogmndmaa
open Go.RowKit Go.ChangeShapes Go.WideShapes Go.ChangeAt
set_option linter.unusedVariables false
set_option linter.unusedSimpArgs false
set_option maxRecDepth 8000

set_option maxHeartbeats 1600000 in
theorem lag_c (k : Pk) (hk : pkB k = true) (w : World) : Calls Try.prog 44 #[.agg (pkA k)] w fun e w' => e = .returned (.int .i64 (lag k)) ∧ Below w.heap.size w w' := by
  obtain ⟨W1, hW1⟩ : ∃ W, w.alloc (Obj.cells (pkA k) 38) = W := ⟨_, rfl⟩
  have HB : Hid (Below w.heap.size w W1) := by rw [← hW1]; exact (Below.refl _ _).alloc (Nat.le_refl _) _
  have K0 : Blk W1 w.heap.size (pkA k) 38 := by rw [← hW1]; exact Blk.new _ _ _
  have x0 := pk_cell0 K0
  have x1 := pk_cell1 K0
  have HP : Hid (lag k = k.t - 30 * k.s) := rfl
  obtain ⟨⟨p0, p1⟩, p2, p3⟩ := (pkB_iff k).1 hk
  clear K0 hk
  go_enter Try.func44, Try.ntmps44
  go_wp2
  go_ret
  exact ⟨by rw [HP.out]; rfl, HB.out⟩
set_option maxHeartbeats 1600000 in
theorem hasSeq_c (v : Value) (ls : List Pk) (y : Int) (w : World) (h : Rg 18 pkC w v ls) : Calls Try.prog 45 #[v, .int .i64 y] w fun e w' => e = .returned (.bool (haB ls y ls.length)) ∧ Below w.heap.size w w' := by
  obtain ⟨a, cap, rfl, h1, h2, h3⟩ := h
  unfold maxLen at h2
  have HT : Hid (∀ j n, haB ls y j = true → haB ls y (j + n) = true) := fun j n hj => by
    induction n with
    | zero => exact hj
    | succ n ih => show (haB ls y (j + n) || _) = true; rw [ih]; rfl
  go_enter Try.func45, Try.ntmps45
  go_wp2
  go_loopw [9] (fun i wr => ∃ j : Nat, j ≤ ls.length ∧ i = .int .i64 j ∧ Hid (haB ls y j = false) ∧ Hid (Below w.heap.size w wr)) (fun i _ => ls.length - (intOf i).toNat)
  case atStart => exact ⟨0, Nat.zero_le _, rfl, rfl, Below.refl _ _⟩
  case round =>
    obtain ⟨j, hj, rfl, hA, hbr⟩ := hrel
    by_cases hlt : j < ls.length
    case neg =>
      obtain rfl : j = ls.length := by omega
      clear h3
      go_wp2
      go_ret
      exact ⟨by rw [hA.out]; rfl, hbr.out⟩
    case pos =>
    rcases h3 with h3 | ⟨b, off, rfl, h4⟩
    · subst h3; simp at hlt
    have hcb : b < w.heap.size := block_lt_of_cell (h4 j hlt 0 _ rfl)
    obtain ⟨k, hk⟩ : ∃ k, ls[j] = k := ⟨_, rfl⟩
    have HR : Hid (wr.rangeAt b (off + j * 18) (pkC k)) := by rw [← hk]; exact rangeAt_below (h4 j hlt) hbr.out hcb
    obtain ⟨W2, hW2⟩ : ∃ W, bxW wr k = W := ⟨_, rfl⟩
    have k2 : Blk W2 wr.heap.size (pkA k) 38 := by rw [← hW2]; exact bxW_blk wr k
    have b2 : Below wr.heap.size wr W2 := by rw [← hW2]; exact bxW_below wr k
    have HZ : Hid (Blk (wr.alloc (Obj.cells #[.int .i64 0, .int .i64 0, .int .u8 0, .int .u8 0, .int .u8 0, .int .u8 0, .int .u8 0, .int .u8 0, .int .u8 0, .int .u8 0, .int .u8 0, .int .u8 0, .int .u8 0, .int .u8 0, .int .u8 0, .int .u8 0, .int .u8 0, .int .u8 0] 38)) wr.heap.size #[.int .i64 0, .int .i64 0, .int .u8 0, .int .u8 0, .int .u8 0, .int .u8 0, .int .u8 0, .int .u8 0, .int .u8 0, .int .u8 0, .int .u8 0, .int .u8 0, .int .u8 0, .int .u8 0, .int .u8 0, .int .u8 0, .int .u8 0, .int .u8 0] 38) := Blk.new _ _ _
    have HW2 : Hid ((wr.alloc (Obj.cells #[.int .i64 0, .int .i64 0, .int .u8 0, .int .u8 0, .int .u8 0, .int .u8 0, .int .u8 0, .int .u8 0, .int .u8 0, .int .u8 0, .int .u8 0, .int .u8 0, .int .u8 0, .int .u8 0, .int .u8 0, .int .u8 0, .int .u8 0, .int .u8 0] 38)).setRow wr.heap.size (pkA k) = W2) := hW2
    have HK3 : Hid (Blk W2 wr.heap.size (pkA k) 38) := k2
    have HB2 : Hid (Below w.heap.size w W2) := belowCall hbr.out b2 hbr.out.size
    have HHB : Hid (haB ls y (j + 1) = (k.s == y)) := by show _ = _; rw [haB, hA.out, kAt_eq hlt, hk]; rfl
    have y1 := pk_cell1 k2
    have hi : (0 : Int) ≤ (j : Int) := by omega
    have hi2 : (j : Int) < (ls.length : Int) := by omega
    clear h4 hk b2 k2 hW2
    by_cases c : k.s = y
    · have d : (k.s == y) = true := by rw [beq_iff_eq]; exact c
      rw [d] at HHB
      have HF : Hid (haB ls y ls.length = true) := by
        have := HT.out (j + 1) (ls.length - (j + 1)) HHB.out
        rw [show j + 1 + (ls.length - (j + 1)) = ls.length by omega] at this
        exact this
      clear c
      go_wp2_with (first | (rw [HW2.out]) | refine ldM rfl _ rfl b (off + j * 18) rfl k HR.out ?_ | refine stP rfl _ _ rfl wr.heap.size rfl k rfl 38 _ HZ.out rfl ?_)
      clear HR HZ HW2 HK3
      go_wp2
      go_ret
      exact ⟨by rw [HF.out]; rfl, HB2.out⟩
    · have d : (k.s == y) = false := by rw [beq_eq_false_iff_ne]; exact c
      rw [d] at HHB
      clear c
      go_wp2_with (first | (rw [HW2.out]) | refine ldM rfl _ rfl b (off + j * 18) rfl k HR.out ?_ | refine stP rfl _ _ rfl wr.heap.size rfl k rfl 38 _ HZ.out rfl ?_)
      clear HR HZ HW2 HK3
      go_wp2
      go_roundw
      case rel => exact ⟨j + 1, by omega, by go_num, HHB.out, HB2.out⟩
      case measure => simp [intOf]; omega
theorem ha_take (ls : List Pk) (y : Int) (j : Nat) : ∀ t, t ≤ j → haB (ls.take j) y t = haB ls y t
  | 0, _ => rfl
  | t + 1, h => by
    rw [haB, haB, ha_take ls y j t (by omega)]
    have : kAt (ls.take j) t = kAt ls t := by simp [kAt, List.getElem?_take, show t < j by omega]
    rw [this]
/-- the least, told as the program does -/
def leI (ls : List Pk) (j : Nat) : Int := if j = 0 then lag (kAt ls 0) else loN ls j
def moI (ls : List Pk) (j : Nat) : Int := if j = 0 then lag (kAt ls 0) else hiN ls j
theorem leI_step (ls : List Pk) (j : Nat) : leI ls (j + 1) = min (leI ls j) (lag (kAt ls j)) := by
  unfold leI
  rw [if_neg (by omega), loN]
  by_cases h : j = 0
  · subst h; simp
  · rw [if_neg h]
    by_cases c : lag (kAt ls j) < loN ls j
    · rw [if_pos (.inr c)]; omega
    · rw [if_neg (by omega)]; omega
theorem moI_step (ls : List Pk) (j : Nat) : moI ls (j + 1) = max (moI ls j) (lag (kAt ls j)) := by
  unfold moI
  rw [if_neg (by omega), hiN]
  by_cases h : j = 0
  · subst h; simp
  · rw [if_neg h]
    by_cases c : hiN ls j < lag (kAt ls j)
    · rw [if_pos (.inr c)]; omega
    · rw [if_neg (by omega)]; omega
set_option maxHeartbeats 6400000 in
theorem stI_c (v : Value) (ls : List Pk) (w : World) (h : Rg 18 pkC w v ls) : Calls Try.prog 22 #[v] w (SdR ls w) := by
  have HR0 : Hid (Rg 18 pkC w v ls) := h
  obtain ⟨a, cap, rfl, h1, h2, h3⟩ := h
  have h2' := h2
  unfold maxLen at h2
  go_enter Try.func22, Try.ntmps22
  go_wp2_with (fail)
  refine (pksI_c _ ls w HR0.out).mono ?_
  rintro e w1 ⟨r, rfl, hr, b1⟩
  have HR : Hid (r = true ↔ PksP ls) := hr
  have HB1 : Hid (Below w.heap.size w w1) := b1
  clear hr b1
  cases r with
  | false =>
    have HF : Hid (¬ PksP ls) := fun h => by have := HR.out.2 h; cases this
    clear h3
    go_wp2
    go_ret2
    exact ⟨_, _, rfl, .inr ⟨HF.out, rfl, rfl⟩, HB1.out⟩
  | true =>
  have HP : Hid (PksP ls) := HR.out.1 rfl
  have hl0 := HP.out.1.1
  obtain ⟨b, off, rfl, h4⟩ : ∃ b off, a = some ⟨b, off, none⟩ ∧ ∀ i (h : i < ls.length), w.rangeAt b (off + i * 18) (pkC ls[i]) := by
    rcases h3 with h3 | h3
    · subst h3; have := HP.out.1.1; simp at this
    · exact h3
  have HRG : Hid (∀ W, Below w.heap.size w W → ∀ i (h : i < ls.length), W.rangeAt b (off + i * 18) (pkC ls[i])) := fun W hW i hi => by
    have h5 := h4 i hi
    exact rangeAt_below h5 hW (block_lt_of_cell (h5 0 _ rfl))
  have HTK : Hid (∀ W, Below w.heap.size w W → ∀ j, j ≤ ls.length → Rg 18 pkC W (.slice (some ⟨b, off, none⟩) j cap) (ls.take j)) := fun W hW j hj =>
    Rg.take (fun i hi => HRG.out W hW i hi) h1 h2' j hj
  obtain ⟨k, hk⟩ : ∃ k, ls[0]'(by omega) = k := ⟨_, rfl⟩
  have hkb : pkB k = true := by rw [← hk]; exact HP.out.2 _ (List.getElem_mem _)
  have HK0 : Hid (kAt ls 0 = k) := by show _ = _; rw [kAt_eq (by omega)]; exact hk
  have HG : Hid (∀ W : Ov w1, W.wd.rangeAt b off (pkC k)) := fun W => by
    have := HRG.out W.wd (belowCall HB1.out W.ok HB1.out.size) 0 (by omega)
    rw [hk] at this
    simpa using this
  have HCL : Hid (∀ W : Ov w1, Calls Try.prog 44 #[.agg (pkA k)] W.wd fun e w'' => e = .returned (.int .i64 (lag k)) ∧ ∃ W' : Ov w1, w'' = W'.wd) := fun W => ov_call (lag_c k hkb W.wd)
  have ne : Nonempty (Ov w1) := ⟨⟨_, Below.refl _ _⟩⟩
  have hlen := HP.out.1.2
  have hl1 : (0 : Int) < (ls.length : Int) := by omega
  clear h4 h3 HR hk hkb h2'
  go_wp2
  refine region_over (by kernel_rfl) (by kernel_rfl) ?_
  try simp only [Act.put]
  iterate 2 (go_big_quiet_step (fail))
  refine BigFrame.wpQuiet_want rfl fun K hK => quietLdM _ rfl b off rfl k (fun w hw => by obtain ⟨W, rfl⟩ := hw; exact HG.out W) (hK _ ?_)
  simp only [Act.put, List.setIfInBounds_toArray, List.set_cons_succ, List.set_cons_zero]
  iterate 3 (go_big_quiet_step (first | (go_at_call 44; exact HCL.out _)))
  refine BigFrame.wpQuiet_want rfl fun K hK => quietLdM _ rfl b off rfl k (fun w hw => by obtain ⟨W, rfl⟩ := hw; exact HG.out W) (hK _ ?_)
  simp only [Act.put, List.setIfInBounds_toArray, List.set_cons_succ, List.set_cons_zero]
  repeat (go_big_quiet_step (first | (go_at_call 44; exact HCL.out _)))
  refine wpQuiet_nil ?_
  rintro _ ⟨W, rfl⟩
  have HB2 : Hid (Below w.heap.size w W.wd) := belowCall HB1.out W.ok HB1.out.size
  have e0 : leI ls 0 = lag k := by unfold leI; rw [if_pos rfl, HK0.out]
  have e1 : moI ls 0 = lag k := by unfold moI; rw [if_pos rfl, HK0.out]
  have HE0 : Hid (leI ls 0 = lag k ∧ moI ls 0 = lag k) := ⟨e0, e1⟩
  clear HCL HG HK0 HB1 ne e0 e1
  go_wp2
  go_loopw [4, 5, 6, 22] (fun lo hi tw i wr => ∃ j : Nat, j ≤ ls.length ∧ i = .int .i64 j ∧ lo = .int .i64 (leI ls j) ∧ hi = .int .i64 (moI ls j) ∧ tw = .int .i64 (twN ls j) ∧ Hid (Below w.heap.size w wr)) (fun _ _ _ i _ => ls.length - (intOf i).toNat)
  case atStart => exact ⟨0, Nat.zero_le _, rfl, by rw [HE0.out.1], by rw [HE0.out.2], rfl, HB2.out⟩
  case round =>
    obtain ⟨j, hj, rfl, rfl, rfl, rfl, hbr⟩ := hrel
    by_cases hlt : j < ls.length
    case neg =>
      obtain rfl : j = ls.length := by omega
      have lb := loN_bd HP.out.2 ls.length (Nat.le_refl _)
      have hb := hiN_bd HP.out.2 ls.length (Nat.le_refl _)
      have ea : leI ls ls.length = loN ls ls.length := by unfold leI; rw [if_neg (by omega)]
      have eb : moI ls ls.length = hiN ls ls.length := by unfold moI; rw [if_neg (by omega)]
      rw [ea, eb]
      have HE : Hid (∀ x y, x = hiN ls ls.length - loN ls ls.length → y = twN ls ls.length → ((PksP ls ∧ x = hiN ls ls.length - loN ls ls.length ∧ y = twN ls ls.length) ∨ (¬ PksP ls ∧ x = -1 ∧ y = -1))) := fun x y hx hy => .inl ⟨HP.out, hx, hy⟩
      obtain ⟨A, hA⟩ : ∃ A, hiN ls ls.length = A := ⟨_, rfl⟩
      obtain ⟨B, hB⟩ : ∃ B, loN ls ls.length = B := ⟨_, rfl⟩
      rw [hA] at hb HE ⊢
      rw [hB] at lb HE ⊢
      have HAB : Hid (hiN ls ls.length = A ∧ loN ls ls.length = B) := ⟨hA, hB⟩
      clear hA hB ea eb
      go_wp2
      go_ret2
      exact ⟨_, _, rfl, by rw [HAB.out.1, HAB.out.2]; exact HE.out _ _ rfl rfl, hbr.out⟩
    case pos =>
    obtain ⟨k, hk⟩ : ∃ k, ls[j] = k := ⟨_, rfl⟩
    have hkb : pkB k = true := by rw [← hk]; exact HP.out.2 _ (List.getElem_mem hlt)
    have HR : Hid (wr.rangeAt b (off + j * 18) (pkC k)) := by rw [← hk]; exact HRG.out wr hbr.out j hlt
    obtain ⟨W2, hW2⟩ : ∃ W, bxW wr k = W := ⟨_, rfl⟩
    have k2 : Blk W2 wr.heap.size (pkA k) 38 := by rw [← hW2]; exact bxW_blk wr k
    have b2 : Below wr.heap.size wr W2 := by rw [← hW2]; exact bxW_below wr k
    have HZ : Hid (Blk (wr.alloc (Obj.cells #[.int .i64 0, .int .i64 0, .int .u8 0, .int .u8 0, .int .u8 0, .int .u8 0, .int .u8 0, .int .u8 0, .int .u8 0, .int .u8 0, .int .u8 0, .int .u8 0, .int .u8 0, .int .u8 0, .int .u8 0, .int .u8 0, .int .u8 0, .int .u8 0] 38)) wr.heap.size #[.int .i64 0, .int .i64 0, .int .u8 0, .int .u8 0, .int .u8 0, .int .u8 0, .int .u8 0, .int .u8 0, .int .u8 0, .int .u8 0, .int .u8 0, .int .u8 0, .int .u8 0, .int .u8 0, .int .u8 0, .int .u8 0, .int .u8 0, .int .u8 0] 38) := Blk.new _ _ _
    have HW2 : Hid ((wr.alloc (Obj.cells #[.int .i64 0, .int .i64 0, .int .u8 0, .int .u8 0, .int .u8 0, .int .u8 0, .int .u8 0, .int .u8 0, .int .u8 0, .int .u8 0, .int .u8 0, .int .u8 0, .int .u8 0, .int .u8 0, .int .u8 0, .int .u8 0, .int .u8 0, .int .u8 0] 38)).setRow wr.heap.size (pkA k) = W2) := hW2
    have HK3 : Hid (Blk W2 wr.heap.size (pkA k) 38) := k2
    have HB3 : Hid (Below w.heap.size w W2) := belowCall hbr.out b2 hbr.out.size
    have HKA : Hid (kAt ls j = k) := by show _ = _; rw [kAt_eq hlt]; exact hk
    have HG : Hid (∀ W : Ov W2, W.wd.rangeAt wr.heap.size 0 (pkC k)) := fun W => rangeAt_below (blk_rng k2) W.ok k2.lt
    have HCL : Hid (∀ W : Ov W2, Calls Try.prog 44 #[.agg (pkA k)] W.wd fun e w'' => e = .returned (.int .i64 (lag k)) ∧ ∃ W' : Ov W2, w'' = W'.wd) := fun W => ov_call (lag_c k hkb W.wd)
    have ne : Nonempty (Ov W2) := ⟨⟨_, Below.refl _ _⟩⟩
    have hi : (0 : Int) ≤ (j : Int) := by omega
    have hi2 : (j : Int) < (ls.length : Int) := by omega
    have HLE : Hid (leI ls (j + 1) = min (leI ls j) (lag k) ∧ moI ls (j + 1) = max (moI ls j) (lag k)) := by
      show _ ∧ _; rw [leI_step, moI_step, HKA.out]; exact ⟨rfl, rfl⟩
    have HTW : Hid (twN ls (j + 1) = if haB ls k.s j then twN ls j + 1 else twN ls j) := by show _ = _; rw [twN, HKA.out]
    have tb := twN_bd ls j
    obtain ⟨L, hL⟩ : ∃ L, leI ls j = L := ⟨_, rfl⟩
    obtain ⟨G, hG⟩ : ∃ G, moI ls j = G := ⟨_, rfl⟩
    obtain ⟨T, hT⟩ : ∃ T, twN ls j = T := ⟨_, rfl⟩
    obtain ⟨X, hX⟩ : ∃ X, lag k = X := ⟨_, rfl⟩
    rw [hL, hG, hX] at HLE
    rw [hT] at HTW tb
    rw [hX] at HCL
    rw [hL, hG, hT]
    clear hk hkb b2 k2 hW2 hL hG hT hX
    go_wp2_with (first | refine ldM rfl _ rfl b (off + j * 18) rfl k HR.out ?_ | refine stP rfl _ _ rfl wr.heap.size rfl k rfl 38 _ HZ.out rfl ?_)
    rw [HW2.out]
    refine region_over (by kernel_rfl) (by kernel_rfl) ?_
    try simp only [Act.put]
    iterate 1 (go_big_quiet_step (fail))
    refine BigFrame.wpQuiet_want rfl fun K hK => quietLdM _ rfl wr.heap.size 0 rfl k (fun w hw => by obtain ⟨W, rfl⟩ := hw; exact HG.out W) (hK _ ?_)
    simp only [Act.put, List.setIfInBounds_toArray, List.set_cons_succ, List.set_cons_zero]
    iterate 3 (go_big_quiet_step (first | (go_at_call 44; exact HCL.out _)))
    refine BigFrame.wpQuiet_want rfl fun K hK => quietLdM _ rfl wr.heap.size 0 rfl k (fun w hw => by obtain ⟨W, rfl⟩ := hw; exact HG.out W) (hK _ ?_)
    simp only [Act.put, List.setIfInBounds_toArray, List.set_cons_succ, List.set_cons_zero]
    repeat (go_big_quiet_step (first | (go_at_call 44; exact HCL.out _)))
    refine wpQuiet_nil ?_
    rintro _ ⟨W, rfl⟩
    obtain ⟨L2, hL2⟩ : ∃ z, (if X < L then X else L) = z := ⟨_, rfl⟩
    obtain ⟨G2, hG2⟩ : ∃ z, (if G < X then X else G) = z := ⟨_, rfl⟩
    rw [hL2, hG2]
    have HL2 : Hid (leI ls (j + 1) = L2 ∧ moI ls (j + 1) = G2) := by
      show _ ∧ _
      rw [HLE.out.1, HLE.out.2, ← hL2, ← hG2]
      constructor
      · split <;> omega
      · split <;> omega
    have HBW : Hid (Below w.heap.size w W.wd) := belowCall HB3.out W.ok HB3.out.size
    have kw : Blk W.wd wr.heap.size (pkA k) 38 := HK3.out.below W.ok HK3.out.lt
    have y1 : ∀ V : Ov W.wd, V.wd.cell? ⟨wr.heap.size, 1, none⟩ = some (.int .i64 k.s) := ov_cell (pk_cell1 kw)
    have htl : (ls.take j).length = j := by simp; omega
    have HHS : Hid (haB (ls.take j) k.s (ls.take j).length = haB ls k.s j) := by
      show _ = _
      rw [htl]
      exact ha_take ls k.s j j (Nat.le_refl _)
    obtain ⟨hh, hhe⟩ : ∃ r, haB ls k.s j = r := ⟨_, rfl⟩
    have HCH : Hid (∀ V : Ov W.wd, Calls Try.prog 45 #[.slice (some ⟨b, off, none⟩) j cap, .int .i64 k.s] V.wd fun e w'' => e = .returned (.bool hh) ∧ ∃ W' : Ov W.wd, w'' = W'.wd) := fun V => by
      have := hasSeq_c _ (ls.take j) k.s V.wd (HTK.out V.wd (belowCall HBW.out V.ok HBW.out.size) j hj)
      rw [HHS.out, hhe] at this
      exact ov_call this
    have ne2 : Nonempty (Ov W.wd) := ⟨⟨_, Below.refl _ _⟩⟩
    rw [hhe] at HTW
    clear hL2 hG2 HLE HCL HG HK3 kw htl HHS hhe HR HZ HW2 ne
    have hjc : (j : Int) ≤ (cap : Int) := by omega
    go_wp2
    refine region_over (by kernel_rfl) (by kernel_rfl) ?_
    try simp only [Act.put]
    repeat (go_big_quiet_step (first | (go_at_call 45; exact HCH.out _)))
    refine wpQuiet_nil ?_
    rintro _ ⟨V, rfl⟩
    have HBV : Hid (Below w.heap.size w V.wd) := belowCall HBW.out V.ok HBW.out.size
    clear HCH y1 HBW HB3 ne2
    cases hh with
    | true =>
      rw [if_pos rfl] at HTW
      go_wp2
      go_roundw
      case rel => exact ⟨j + 1, by omega, by go_num, by rw [HL2.out.1], by rw [HL2.out.2], by rw [HTW.out], HBV.out⟩
      case measure => simp [intOf]; omega
    | false =>
      rw [if_neg (by simp)] at HTW
      go_wp2
      go_roundw
      case rel => exact ⟨j + 1, by omega, by go_num, by rw [HL2.out.1], by rw [HL2.out.2], by rw [HTW.out], HBV.out⟩
      case measure => simp [intOf]; omega

end Go.Proofs.Ytlgogikogmndmaa
