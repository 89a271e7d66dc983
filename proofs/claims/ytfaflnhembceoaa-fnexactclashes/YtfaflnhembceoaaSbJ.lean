/- Right subs, the program's way; no condition. -/
import Derived.Test.YtfaflnhembceoaaSbI
namespace Go.Proofs.Ytfaflnhembceoaa
open Go.RowKit Go.ChangeShapes Go.WideShapes Go.ChangeAt
set_option linter.unusedVariables false
set_option linter.unusedSimpArgs false
set_option maxRecDepth 8000
set_option maxHeartbeats 3200000 in
theorem featsI_c (v : Value) (ls : Fts) (n : Int) (w : World) (h : Rp mf mg w v ls) : Calls Try.prog 58 #[v, .int .i64 n] w (BoR (FsOk n ls) w) := by
  obtain ⟨a, cap, rfl, h1, h2, h3⟩ := h
  have H2m : Hid (cap ≤ maxLen) := h2
  unfold maxLen at h2
  obtain ⟨m, hm⟩ : ∃ m, ls.length = m := ⟨_, rfl⟩
  have HM : Hid (ls.length = m) := hm
  have H3 : Hid (ls = [] ∨ ∃ b off, a = some ⟨b, off, none⟩ ∧ ∀ i (h : i < ls.length), w.cell? ⟨b, off + i * 2, none⟩ = some (mf ls[i]) ∧ w.cell? ⟨b, off + i * 2 + 1, none⟩ = some (mg ls[i])) := h3
  rw [hm] at h1 ⊢
  clear hm h3
  go_enter Try.func58, Try.ntmps58
  go_wp2
  go_loopw [9] (fun i wr => ∃ j : Nat, j ≤ m ∧ i = .int .i64 j ∧ Hid (Below w.heap.size w wr) ∧ Hid (FsTo n ls j)) (fun i _ => m - (intOf i).toNat)
  case atStart => exact ⟨0, Nat.zero_le _, rfl, Below.refl _ _, fun i _ h => by omega⟩
  case round =>
    obtain ⟨j, hj, rfl, BJ, hA⟩ := hrel
    by_cases hlt : j < m
    case neg =>
      obtain rfl : m = j := by omega
      have HY : Hid (FsOk n ls) := by
        show FsTo n ls ls.length
        rw [HM.out]; exact hA.out
      go_wp2
      go_ret
      exact BoR.yes HY.out BJ.out
    case pos =>
    have hjl : j < ls.length := by rw [HM.out]; exact hlt
    obtain ⟨b, off, rfl, h4⟩ : ∃ b off, a = some ⟨b, off, none⟩ ∧ _ := by
      rcases H3.out with h | h
      · rw [h] at hjl; simp at hjl
      · exact h
    have hc := h4 j hjl
    have hcb : b < w.heap.size := block_lt_of_cell hc.1
    obtain ⟨r, hr⟩ : ∃ r, ls[j] = r := ⟨_, rfl⟩
    rw [hr] at hc
    have HR : Hid (ls[j] = r) := hr
    have e0 := (BJ.out.cell (p := ⟨b, off + j * 2, none⟩) hcb).trans hc.1
    have e1 := (BJ.out.cell (p := ⟨b, off + j * 2 + 1, none⟩) hcb).trans hc.2
    obtain ⟨W1, hW1⟩ : ∃ W1, wr.alloc (Obj.cells (H2 r.1 r.2) 37) = W1 := ⟨_, rfl⟩
    have bA : Below wr.heap.size wr W1 := hW1 ▸ (Below.refl _ _).alloc (Nat.le_refl _) _
    have B1 : Hid (Below w.heap.size w W1) := belowCall BJ.out bA BJ.out.size
    have k1 : Blk W1 wr.heap.size (H2 r.1 r.2) 37 := hW1 ▸ Blk.new _ _ _
    have HW1 : Hid (wr.alloc (Obj.cells (H2 r.1 r.2) 37) = W1) := hW1
    have z0 : ∀ W : Ov W1, W.wd.cell? ⟨wr.heap.size, 0, none⟩ = some (.int .i64 r.1) := ov_cell (k1.cell 0)
    have z1 : ∀ W : Ov W1, W.wd.cell? ⟨wr.heap.size, 1, none⟩ = some (.int .i64 r.2) := ov_cell (k1.cell 1)
    have ne : Nonempty (Ov W1) := ⟨⟨_, Below.refl _ _⟩⟩
    have HC1 : Hid (∀ W : Ov W1, Calls Try.prog 83 #[.agg #[.int .i64 r.1, .int .i64 r.2], .int .i64 n] W.wd fun e w'' => e = .returned (.bool (ftB n r)) ∧ ∃ W' : Ov W1, w'' = W'.wd) := fun W => ov_call (featOk_c r.1 r.2 n W.wd)
    have HC2 : Hid (∀ W : Ov W1, Calls Try.prog 84 #[.slice (some ⟨b, off, none⟩) j cap, .agg #[.int .i64 r.1, .int .i64 r.2]] W.wd fun e w'' => e = .returned (.bool ((ls.take j).any (twB r))) ∧ ∃ W' : Ov W1, w'' = W'.wd) := fun W => ov_call (ordered_c _ (ls.take j) r W.wd ((Rp.take h4 (by rw [HM.out]; exact h1) H2m.out j (by omega)).below (belowCall B1.out W.ok B1.out.size)))
    clear h4 hc hr hW1 bA k1
    obtain ⟨q1, hq1⟩ : ∃ q, ftB n r = q := ⟨_, rfl⟩
    obtain ⟨q2, hq2⟩ : ∃ q, (ls.take j).any (twB r) = q := ⟨_, rfl⟩
    have HQ1 : Hid (ftB n ls[j] = q1) := by rw [HR.out]; exact hq1
    have HQ2 : Hid ((ls.take j).any (twB ls[j]) = q2) := by rw [HR.out]; exact hq2
    rw [hq1] at HC1
    rw [hq2] at HC2
    clear hq1 hq2
    cases q1 with
    | false =>
      have HY : Hid (¬ FsOk n ls) := fun h => by
        have := (h j hjl hjl).1
        rw [HQ1.out] at this; cases this
      clear HC2 HQ1 HQ2 hA
      go_wp2_with (fail)
      rw [HW1.out]
      clear HW1 e0 e1
      refine region_over (by kernel_rfl) (by kernel_rfl) ?_
      repeat (go_big_quiet_step (first | (go_at_call 83; exact HC1.out _)))
      refine wpQuiet_nil ?_
      rintro _ ⟨W, rfl⟩
      have HBW : Hid (Below w.heap.size w W.wd) := belowCall B1.out W.ok B1.out.size
      clear z0 z1 HC1
      go_wp2
      go_ret
      exact BoR.no HY.out HBW.out
    | true =>
    cases q2 with
    | true =>
      have HY : Hid (¬ FsOk n ls) := fun h => by
        have := (h j hjl hjl).2
        rw [HQ2.out] at this; cases this
      clear HQ1 HQ2 hA
      go_wp2_with (fail)
      rw [HW1.out]
      clear HW1 e0 e1
      refine region_over (by kernel_rfl) (by kernel_rfl) ?_
      repeat (go_big_quiet_step (first | (go_at_call 83; exact HC1.out _) | (go_at_call 84; exact HC2.out _)))
      refine wpQuiet_nil ?_
      rintro _ ⟨W, rfl⟩
      have HBW : Hid (Below w.heap.size w W.wd) := belowCall B1.out W.ok B1.out.size
      clear z0 z1 HC1 HC2
      go_wp2
      go_ret
      exact BoR.no HY.out HBW.out
    | false =>
      have HY : Hid (FsTo n ls (j + 1)) := hA.out.succ hjl HQ1.out HQ2.out
      clear HQ1 HQ2 hA
      go_wp2_with (fail)
      rw [HW1.out]
      clear HW1 e0 e1
      refine region_over (by kernel_rfl) (by kernel_rfl) ?_
      repeat (go_big_quiet_step (first | (go_at_call 83; exact HC1.out _) | (go_at_call 84; exact HC2.out _)))
      refine wpQuiet_nil ?_
      rintro _ ⟨W, rfl⟩
      have HBW : Hid (Below w.heap.size w W.wd) := belowCall B1.out W.ok B1.out.size
      clear z0 z1 HC1 HC2
      go_wp2
      go_roundw
      case rel => exact ⟨j + 1, by omega, by go_num, HBW.out, HY.out⟩
      case measure => simp [intOf]; omega
theorem RdS.len {w : World} {v : Value} {cs : Sbs} (h : RdS w v cs) : ∃ a cap, v = .slice a cs.length cap ∧ cs.length ≤ cap ∧ cap ≤ maxLen := by
  obtain ⟨lv, hl, ⟨a, cap, rfl, h1, h2, h3⟩, hc⟩ := h
  exact ⟨a, cap, by rw [hl], by rw [hl] at h1; exact h1, h2⟩
/-- one sub of a row that is read -/
theorem RdS.at {w : World} {a : Option Addr} {n cap : Nat} {cs : Sbs} (h : RdS w (.slice a n cap) cs) (j : Nat) (hj : j < cs.length) : ∃ b off v, a = some ⟨b, off, none⟩ ∧ b < w.heap.size ∧ Rp mf mg w v cs[j].2.2 ∧
    w.cell? ⟨b, off + j * 3, none⟩ = some (.bool cs[j].1) ∧ w.cell? ⟨b, off + j * 3 + 1, none⟩ = some (.bool cs[j].2.1) ∧ w.cell? ⟨b, off + j * 3 + 2, none⟩ = some v := by
  obtain ⟨lv, hl, ⟨a', cap', e, h1, h2, h3⟩, hc⟩ := h
  injection e with e1 e2 e3
  subst e1
  rcases h3 with h3 | ⟨b, off, rfl, h4⟩
  · subst h3; simp at hl; omega
  · have h5 := h4 j (by omega)
    have h6 := hc j hj (by omega)
    exact ⟨b, off, lv[j].2.2, rfl, block_lt_of_cell h5.1, h6.2.2, by rw [h5.1, h6.1], by rw [h5.2.1, h6.2.1], h5.2.2⟩
def SbTo (n : Int) (cs : Sbs) (j : Nat) : Prop := ∀ i (h : i < cs.length), i < j → FsOk n cs[i].2.2
theorem SbTo.succ {n : Int} {cs : Sbs} {j : Nat} (h : SbTo n cs j) (hj : j < cs.length) (h1 : FsOk n cs[j].2.2) : SbTo n cs (j + 1) := by
  intro i hi hij
  by_cases e : i < j
  · exact h i hi e
  · obtain rfl : i = j := by omega
    exact h1
set_option maxHeartbeats 3200000 in
theorem subsI_c (v : Value) (cs : Sbs) (w : World) (h : RdS w v cs) : Calls Try.prog 24 #[v] w (BoR (SbOk cs) w) := by
  have HR0 : Hid (RdS w v cs) := h
  obtain ⟨a, cap, rfl, h1, h2⟩ := h.len
  unfold maxLen at h2
  clear h
  obtain ⟨m, hm⟩ : ∃ m, cs.length = m := ⟨_, rfl⟩
  have HM : Hid (cs.length = m) := hm
  rw [hm] at h1 HR0 ⊢
  clear hm
  by_cases g1 : m < 1
  · have hI : (m : Int) < 1 := by omega
    have HY : Hid (¬ SbOk cs) := fun h => by have := h.1; have := HM.out; omega
    go_enter Try.func24, Try.ntmps24
    go_wp2
    go_ret
    exact BoR.no HY.out (Below.refl _ _)
  have hI : ¬ ((m : Int) < 1) := by omega
  by_cases g2 : 16 < m
  · have hI2 : (16 : Int) < (m : Int) := by omega
    have HY : Hid (¬ SbOk cs) := fun h => by have := h.2.1; have := HM.out; omega
    go_enter Try.func24, Try.ntmps24
    go_wp2
    go_ret
    exact BoR.no HY.out (Below.refl _ _)
  have hI2 : ¬ ((16 : Int) < (m : Int)) := by omega
  go_enter Try.func24, Try.ntmps24
  go_wp2
  go_loopw [15] (fun i wr => ∃ j : Nat, j ≤ m ∧ i = .int .i64 j ∧ Hid (Below w.heap.size w wr) ∧ Hid (SbTo (m : Int) cs j)) (fun i _ => m - (intOf i).toNat)
  case atStart => exact ⟨0, Nat.zero_le _, rfl, Below.refl _ _, fun i _ h => by omega⟩
  case round =>
    obtain ⟨j, hj, rfl, BJ, hA⟩ := hrel
    by_cases hlt : j < m
    case neg =>
      obtain rfl : m = j := by omega
      have HY : Hid (SbOk cs) := by
        refine ⟨by rw [HM.out]; omega, by rw [HM.out]; omega, fun i hi => ?_⟩
        have := hA.out i hi (by have := HM.out; omega)
        rw [HM.out]; exact this
      go_wp2
      go_ret
      exact BoR.yes HY.out BJ.out
    case pos =>
    have hjl : j < cs.length := by rw [HM.out]; exact hlt
    obtain ⟨b, off, v2, rfl, hcb, hR, d0, d1, d2⟩ := HR0.out.at j hjl
    obtain ⟨a2, cap2, rfl, -⟩ := id hR
    have e0 := (BJ.out.cell (p := ⟨b, off + j * 3, none⟩) hcb).trans d0
    have e1 := (BJ.out.cell (p := ⟨b, off + j * 3 + 1, none⟩) hcb).trans d1
    have e2 := (BJ.out.cell (p := ⟨b, off + j * 3 + 2, none⟩) hcb).trans d2
    obtain ⟨p, hp⟩ : ∃ p, cs[j].1 = p := ⟨_, rfl⟩
    obtain ⟨q, hq⟩ : ∃ q, cs[j].2.1 = q := ⟨_, rfl⟩
    obtain ⟨L, hL⟩ : ∃ L, cs[j].2.2.length = L := ⟨_, rfl⟩
    rw [hp] at e0
    rw [hq] at e1
    rw [hL] at e2 hR
    obtain ⟨W1, hW1⟩ : ∃ W1, wr.alloc (Obj.cells (S3 p q (.slice a2 L cap2)) 35) = W1 := ⟨_, rfl⟩
    have bA : Below wr.heap.size wr W1 := hW1 ▸ (Below.refl _ _).alloc (Nat.le_refl _) _
    have B1 : Hid (Below w.heap.size w W1) := belowCall BJ.out bA BJ.out.size
    have HW1 : Hid (wr.alloc (Obj.cells (S3 p q (.slice a2 L cap2)) 35) = W1) := hW1
    have HC : Hid (Calls Try.prog 58 #[.slice a2 L cap2, .int .i64 (m : Int)] W1 (BoR (FsOk (m : Int) cs[j].2.2) W1)) := featsI_c _ cs[j].2.2 m W1 (hR.below B1.out)
    clear d0 d1 d2 hR hp hq hL bA hW1
    go_wp2_with (fail)
    rw [HW1.out]
    refine HC.out.mono ?_
    rintro e w2 ⟨r, rfl, hr, b2⟩
    have B2 : Hid (Below w.heap.size w w2) := belowCall B1.out b2 B1.out.size
    have HQ : Hid (r = true ↔ FsOk (m : Int) cs[j].2.2) := hr
    clear hr b2 BJ B1 HC HW1 e0 e1 e2
    cases r with
    | false =>
      have HY : Hid (¬ SbOk cs) := fun h => by
        have := h.2.2 j hjl
        rw [HM.out] at this
        have := HQ.out.2 this; cases this
      clear HQ
      go_wp2
      go_ret
      exact BoR.no HY.out B2.out
    | true =>
      have HY : Hid (SbTo (m : Int) cs (j + 1)) := hA.out.succ hjl (HQ.out.1 rfl)
      clear HQ hA
      go_wp2
      go_roundw
      case rel => exact ⟨j + 1, by omega, by go_num, B2.out, HY.out⟩
      case measure => simp [intOf]; omega
end Go.Proofs.Ytfaflnhembceoaa
