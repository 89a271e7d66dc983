/- Sums of the model; no condition. -/
import Derived.Test.YtfbegonnbdakpaaSui
import Derived.Test.YtfbegonnbdakpaaMixT
namespace Go.Proofs.Ytfbegonnbdakpaa
open Go.RowKit Go.ChangeShapes Go.WideShapes Go.ChangeAt
set_option linter.unusedVariables false
set_option linter.unusedSimpArgs false
set_option maxRecDepth 8000
set_option maxHeartbeats 6400000 in
theorem sumsM_c (v : Value) (ls : List (Nat × Nat)) (w : World) (h : Rg 2 smC w v ls) : Calls Try.prog 56 #[v] w (SuR ls w) := by
  obtain ⟨a, cap, rfl, h1, h2, h3⟩ := h
  unfold maxLen at h2
  have hsf := storeF
  have hop := run_fop (P := Try.prog) .add (by simp)
  obtain ⟨W0, hW0⟩ : ∃ W, (((w.alloc (Obj.cells #[.float .f32 0, .float .f32 0] 26)).alloc (Obj.cells #[.float .f64 0, .float .f64 0] 30)).alloc (Obj.cells #[.float .f32 0, .float .f32 0] 26)).alloc (Obj.cells #[.float .f64 0, .float .f64 0] 30) = W := ⟨_, rfl⟩
  have HW0 : Hid ((((w.alloc (Obj.cells #[.float .f32 0, .float .f32 0] 26)).alloc (Obj.cells #[.float .f64 0, .float .f64 0] 30)).alloc (Obj.cells #[.float .f32 0, .float .f32 0] 26)).alloc (Obj.cells #[.float .f64 0, .float .f64 0] 30) = W0) := hW0
  have HB0 : Hid (Below w.heap.size w W0) := by rw [← hW0]; exact ((((Below.refl _ _).alloc (Nat.le_refl _) _).alloc (by simp) _).alloc (by simp; omega) _).alloc (by simp; omega) _
  have HK0 : Hid (Blk W0 w.heap.size #[.float .f32 0, .float .f32 0] 26 ∧ Blk W0 (w.heap.size + 1) #[.float .f64 0, .float .f64 0] 30 ∧ Blk W0 (w.heap.size + 1 + 1) #[.float .f32 0, .float .f32 0] 26 ∧ Blk W0 (w.heap.size + 1 + 1 + 1) #[.float .f64 0, .float .f64 0] 30) := by
    rw [← hW0]
    exact ⟨(((Blk.new _ _ _).alloc _).alloc _).alloc _, ((Blk.newAt _ _ _ _ (by simp)).alloc _).alloc _, (Blk.newAt _ _ _ _ (by simp)).alloc _, Blk.newAt _ _ _ _ (by simp)⟩
  clear hW0
  go_enter Try.func56, Try.ntmps56
  go_wp2
  rw [HW0.out]
  go_loopw [6] (fun i wr => ∃ (j x y u q : Nat), j ≤ suN ls ∧ i = .int .i64 j ∧ Hid (fc .f32 x = sgF (·.1) ls j ∧ fc .f32 y = sgF (·.2) ls j ∧ fc .f64 u = dbF (·.1) ls j ∧ fc .f64 q = dbF (·.2) ls j) ∧ Hid (Blk wr w.heap.size #[.float .f32 0, .float .f32 0] 26 ∧ Blk wr (w.heap.size + 1) #[.float .f64 0, .float .f64 0] 30 ∧ Blk wr (w.heap.size + 1 + 1) #[.float .f32 x, .float .f32 y] 26 ∧ Blk wr (w.heap.size + 1 + 1 + 1) #[.float .f64 u, .float .f64 q] 30) ∧ Hid (Below w.heap.size w wr)) (fun i _ => suN ls - (intOf i).toNat)
  case atStart => exact ⟨0, 0, 0, 0, 0, Nat.zero_le _, rfl, ⟨fcs0, fcs0, fcd0, fcd0⟩, HK0.out, HB0.out⟩
  case round =>
    obtain ⟨j, x, y, u, q, hj, rfl, HF, HK, HB⟩ := hrel
    clear HK0 HB0 HW0
    by_cases hlen : ls.length ≤ 200
    case neg =>
      have hn : suN ls = 0 := by unfold suN; rw [if_neg hlen]
      obtain rfl : j = 0 := by omega
      have HN : Hid (suN ls = 0) := hn
      have hlen1 : (0 : Int) < (ls.length : Int) := by omega
      have hlen2 : ¬ (ls.length : Int) ≤ 200 := by omega
      clear h3 hn hlen
      have c0 := HK.out.2.2.1.cell 0
      have c1 := HK.out.2.2.1.cell 1
      have c2 := HK.out.2.2.2.cell 0
      have c3 := HK.out.2.2.2.cell 1
      simp at c0 c1 c2 c3
      obtain ⟨S, hS⟩ : ∃ S : World → Prop, ∀ W, S W ↔ (W.cell? ⟨w.heap.size + 1 + 1, 0, none⟩ = some (.float .f32 x) ∧ W.cell? ⟨w.heap.size + 1 + 1, 1, none⟩ = some (.float .f32 y) ∧ W.cell? ⟨w.heap.size + 1 + 1 + 1, 0, none⟩ = some (.float .f64 u) ∧ W.cell? ⟨w.heap.size + 1 + 1 + 1, 1, none⟩ = some (.float .f64 q)) := ⟨_, fun _ => Iff.rfl⟩
      have HS : Hid (∀ W, S W ↔ (W.cell? ⟨w.heap.size + 1 + 1, 0, none⟩ = some (.float .f32 x) ∧ W.cell? ⟨w.heap.size + 1 + 1, 1, none⟩ = some (.float .f32 y) ∧ W.cell? ⟨w.heap.size + 1 + 1 + 1, 0, none⟩ = some (.float .f64 u) ∧ W.cell? ⟨w.heap.size + 1 + 1 + 1, 1, none⟩ = some (.float .f64 q))) := hS
      have HSd : Hid (S wr.drew) := (hS _).2 ⟨c0, c1, c2, c3⟩
      have y0 : ∀ W : At S, W.wd.cell? ⟨w.heap.size + 1 + 1, 0, none⟩ = some (.float .f32 x) := fun W => ((hS _).1 W.ok).1
      have y1 : ∀ W : At S, W.wd.cell? ⟨w.heap.size + 1 + 1, 1, none⟩ = some (.float .f32 y) := fun W => ((hS _).1 W.ok).2.1
      have y2 : ∀ W : At S, W.wd.cell? ⟨w.heap.size + 1 + 1 + 1, 0, none⟩ = some (.float .f64 u) := fun W => ((hS _).1 W.ok).2.2.1
      have y3 : ∀ W : At S, W.wd.cell? ⟨w.heap.size + 1 + 1 + 1, 1, none⟩ = some (.float .f64 q) := fun W => ((hS _).1 W.ok).2.2.2
      have ne : Nonempty (At S) := ⟨⟨_, HSd.out⟩⟩
      clear hS c0 c1 c2 c3
      go_wp2
      refine region_mixT [true, true, false, false] 3 1 S (by kernel_rfl) rfl (by kernel_rfl) (fun _ _ _ _ _ h => h) HSd.out ?_
      simp only [selT, selF]
      try simp only [Act.put]
      repeat (go_big_quiet_step (fail))
      refine wpQuiet_nil ?_
      clear y0 y1 y2 y3 ne
      have z0 := HK.out.1.cell 0
      have z1 := HK.out.1.cell 1
      have z2 := HK.out.2.1.cell 0
      have z3 := HK.out.2.1.cell 1
      have f0 := HK.out.1.frozen 0
      have f1 := HK.out.1.frozen 1
      have f2 := HK.out.2.1.frozen 0
      have f3 := HK.out.2.1.frozen 1
      simp at z0 z1 z2 z3
      refine tail_step ?_
      go_wp2
      refine ⟨?_, ?_⟩
      · have h4 := (Blk.set2o HK.out.2.2.1 (k := w.heap.size) (by omega) (.float .f32 x) (.float .f32 y)).drew
        have h5 := (Blk.set2o HK.out.2.2.2 (k := w.heap.size) (by omega) (.float .f32 x) (.float .f32 y)).drew
        refine (HS.out _).2 ⟨?_, ?_, ?_, ?_⟩
        · rw [h4.cell]; rfl
        · rw [h4.cell]; rfl
        · rw [h5.cell]; rfl
        · rw [h5.cell]; rfl
      show wpList _ _ _ _ _ _
      go_wp2
      refine bodyPost_ret (results_SW rfl _ _ _ _ _ _ _ _ rfl rfl (Blk.set2o (Blk.set2 HK.out.1 _ _) (by omega) _ _).drew (Blk.set2 (Blk.set2o HK.out.2.1 (by omega) _ _) _ _).drew) rfl ⟨x, y, u, q, rfl, ?_, ?_, ?_, ?_, (below_set2 (below_set2 HB.out _ (by omega) _ _) _ (by omega) _ _).drew⟩
      all_goals rw [HN.out]
      · exact HF.out.1
      · exact HF.out.2.1
      · exact HF.out.2.2.1
      · exact HF.out.2.2.2

    have hn : suN ls = ls.length := by unfold suN; rw [if_pos hlen]
    have HN : Hid (suN ls = ls.length) := hn
    have hlen2 : (ls.length : Int) ≤ 200 := by omega
    rw [hn] at hj
    by_cases hlt : j < ls.length
    case neg =>
      obtain rfl : j = ls.length := by omega
      clear h3 hn hlen
      have c0 := HK.out.2.2.1.cell 0
      have c1 := HK.out.2.2.1.cell 1
      have c2 := HK.out.2.2.2.cell 0
      have c3 := HK.out.2.2.2.cell 1
      simp at c0 c1 c2 c3
      obtain ⟨S, hS⟩ : ∃ S : World → Prop, ∀ W, S W ↔ (W.cell? ⟨w.heap.size + 1 + 1, 0, none⟩ = some (.float .f32 x) ∧ W.cell? ⟨w.heap.size + 1 + 1, 1, none⟩ = some (.float .f32 y) ∧ W.cell? ⟨w.heap.size + 1 + 1 + 1, 0, none⟩ = some (.float .f64 u) ∧ W.cell? ⟨w.heap.size + 1 + 1 + 1, 1, none⟩ = some (.float .f64 q)) := ⟨_, fun _ => Iff.rfl⟩
      have HS : Hid (∀ W, S W ↔ (W.cell? ⟨w.heap.size + 1 + 1, 0, none⟩ = some (.float .f32 x) ∧ W.cell? ⟨w.heap.size + 1 + 1, 1, none⟩ = some (.float .f32 y) ∧ W.cell? ⟨w.heap.size + 1 + 1 + 1, 0, none⟩ = some (.float .f64 u) ∧ W.cell? ⟨w.heap.size + 1 + 1 + 1, 1, none⟩ = some (.float .f64 q))) := hS
      have HSd : Hid (S wr.drew) := (hS _).2 ⟨c0, c1, c2, c3⟩
      have y0 : ∀ W : At S, W.wd.cell? ⟨w.heap.size + 1 + 1, 0, none⟩ = some (.float .f32 x) := fun W => ((hS _).1 W.ok).1
      have y1 : ∀ W : At S, W.wd.cell? ⟨w.heap.size + 1 + 1, 1, none⟩ = some (.float .f32 y) := fun W => ((hS _).1 W.ok).2.1
      have y2 : ∀ W : At S, W.wd.cell? ⟨w.heap.size + 1 + 1 + 1, 0, none⟩ = some (.float .f64 u) := fun W => ((hS _).1 W.ok).2.2.1
      have y3 : ∀ W : At S, W.wd.cell? ⟨w.heap.size + 1 + 1 + 1, 1, none⟩ = some (.float .f64 q) := fun W => ((hS _).1 W.ok).2.2.2
      have ne : Nonempty (At S) := ⟨⟨_, HSd.out⟩⟩
      clear hS c0 c1 c2 c3
      go_wp2
      refine region_mixT [true, true, false, false] 3 1 S (by kernel_rfl) rfl (by kernel_rfl) (fun _ _ _ _ _ h => h) HSd.out ?_
      simp only [selT, selF]
      try simp only [Act.put]
      repeat (go_big_quiet_step (fail))
      refine wpQuiet_nil ?_
      clear y0 y1 y2 y3 ne
      have z0 := HK.out.1.cell 0
      have z1 := HK.out.1.cell 1
      have z2 := HK.out.2.1.cell 0
      have z3 := HK.out.2.1.cell 1
      have f0 := HK.out.1.frozen 0
      have f1 := HK.out.1.frozen 1
      have f2 := HK.out.2.1.frozen 0
      have f3 := HK.out.2.1.frozen 1
      simp at z0 z1 z2 z3
      refine tail_step ?_
      go_wp2
      refine ⟨?_, ?_⟩
      · have h4 := (Blk.set2o HK.out.2.2.1 (k := w.heap.size) (by omega) (.float .f32 x) (.float .f32 y)).drew
        have h5 := (Blk.set2o HK.out.2.2.2 (k := w.heap.size) (by omega) (.float .f32 x) (.float .f32 y)).drew
        refine (HS.out _).2 ⟨?_, ?_, ?_, ?_⟩
        · rw [h4.cell]; rfl
        · rw [h4.cell]; rfl
        · rw [h5.cell]; rfl
        · rw [h5.cell]; rfl
      show wpList _ _ _ _ _ _
      go_wp2
      refine bodyPost_ret (results_SW rfl _ _ _ _ _ _ _ _ rfl rfl (Blk.set2o (Blk.set2 HK.out.1 _ _) (by omega) _ _).drew (Blk.set2 (Blk.set2o HK.out.2.1 (by omega) _ _) _ _).drew) rfl ⟨x, y, u, q, rfl, ?_, ?_, ?_, ?_, (below_set2 (below_set2 HB.out _ (by omega) _ _) _ (by omega) _ _).drew⟩
      all_goals rw [HN.out]
      · exact HF.out.1
      · exact HF.out.2.1
      · exact HF.out.2.2.1
      · exact HF.out.2.2.2

    rcases h3 with h3 | ⟨b, off, rfl, h4⟩
    · subst h3; simp at hlt
    have hcb : b < w.heap.size := block_lt_of_cell (h4 j hlt 0 _ rfl)
    have hc := rangeAt_below (h4 j hlt) HB.out hcb
    have HR : Hid (w.rangeAt b (off + j * 2) (smC ls[j])) := h4 j hlt
    obtain ⟨⟨p, r⟩, hpr⟩ : ∃ k, ls[j] = k := ⟨_, rfl⟩
    have HG : Hid (ls.getD j (0, 0) = (p, r)) := by show _ = _; rw [List.getD_eq_getElem?_getD, List.getElem?_eq_getElem hlt, hpr]; rfl
    rw [hpr] at hc HR
    have hc0 : wr.cell? ⟨b, off + j * 2, none⟩ = some (.float .f32 p) := hc 0 _ rfl
    have hc1 : wr.cell? ⟨b, off + j * 2 + 1, none⟩ = some (.float .f32 r) := hc 1 _ rfl
    have c0 := HK.out.2.2.1.cell 0
    have c1 := HK.out.2.2.1.cell 1
    simp at c0 c1
    clear h4 hc hpr
    obtain ⟨S, hS⟩ : ∃ S : World → Prop, ∀ W, S W ↔ W = wr.drew := ⟨_, fun _ => Iff.rfl⟩
    have HS : Hid (S wr.drew) := (hS _).2 rfl
    have y0 : ∀ W : At S, W.wd.cell? ⟨b, off + j * 2, none⟩ = some (.float .f32 p) := fun W => by rw [(hS _).1 W.ok]; exact hc0
    have y1 : ∀ W : At S, W.wd.cell? ⟨b, off + j * 2 + 1, none⟩ = some (.float .f32 r) := fun W => by rw [(hS _).1 W.ok]; exact hc1
    have y2 : ∀ W : At S, W.wd.cell? ⟨w.heap.size + 1 + 1, 0, none⟩ = some (.float .f32 x) := fun W => by rw [(hS _).1 W.ok]; exact c0
    have y3 : ∀ W : At S, W.wd.cell? ⟨w.heap.size + 1 + 1, 1, none⟩ = some (.float .f32 y) := fun W => by rw [(hS _).1 W.ok]; exact c1
    have ne : Nonempty (At S) := ⟨⟨_, HS.out⟩⟩
    clear hS hc0 hc1 c0 c1
    go_wp2
    refine region_mixT [true, true, true, true, true, false, false] 5 0 S (by kernel_rfl) rfl (by kernel_rfl) (fun _ _ _ _ _ h => h) HS.out ?_
    simp only [selT, selF]
    try simp only [Act.put]
    repeat (go_big_quiet_step (fail))
    refine wpQuiet_nil ?_
    clear y0 y1 y2 y3 ne
    show wpList _ _ _ _ _ _
    go_wp2_with (fail)
    refine (addM_c x y p r _).mono ?_
    rintro e w1 ⟨x1, y1, rfl, hx1, hy1, b1⟩
    have BW : Below wr.heap.size wr w1 := (Below.refl _ _).drew.trans b1
    have HB1 : Hid (Below w.heap.size w w1) := HB.out.trans (BW.mono HB.out.size)
    have HK1 : Hid (Blk w1 w.heap.size #[.float .f32 0, .float .f32 0] 26 ∧ Blk w1 (w.heap.size + 1) #[.float .f64 0, .float .f64 0] 30 ∧ Blk w1 (w.heap.size + 1 + 1) #[.float .f32 x, .float .f32 y] 26 ∧ Blk w1 (w.heap.size + 1 + 1 + 1) #[.float .f64 u, .float .f64 q] 30) :=
      ⟨HK.out.1.below BW HK.out.1.lt, HK.out.2.1.below BW HK.out.2.1.lt, HK.out.2.2.1.below BW HK.out.2.2.1.lt, HK.out.2.2.2.below BW HK.out.2.2.2.lt⟩
    have HX1 : Hid (fc .f32 x1 = sgF (·.1) ls (j + 1)) := by show _ = fo _ _ _ _; rw [hx1, HF.out.1, HG.out]
    have HY1 : Hid (fc .f32 y1 = sgF (·.2) ls (j + 1)) := by show _ = fo _ _ _ _; rw [hy1, HF.out.2.1, HG.out]
    have z0 := HK1.out.2.2.1.cell 0
    have z1 := HK1.out.2.2.1.cell 1
    have f0 := HK1.out.2.2.1.frozen 0
    have f1 := HK1.out.2.2.1.frozen 1
    simp at z0 z1
    obtain ⟨W2, hW2⟩ : ∃ W, (w1.setCell ⟨w.heap.size + 1 + 1, 0, none⟩ (.float .f32 x1)).setCell ⟨w.heap.size + 1 + 1, 1, none⟩ (.float .f32 y1) = W := ⟨_, rfl⟩
    have HW2 : Hid ((w1.setCell ⟨w.heap.size + 1 + 1, 0, none⟩ (.float .f32 x1)).setCell ⟨w.heap.size + 1 + 1, 1, none⟩ (.float .f32 y1) = W2) := hW2
    have HB2 : Hid (Below w.heap.size w W2) := by rw [← hW2]; exact below_set2 HB1.out _ (by omega) _ _
    have HK2 : Hid (Blk W2 w.heap.size #[.float .f32 0, .float .f32 0] 26 ∧ Blk W2 (w.heap.size + 1) #[.float .f64 0, .float .f64 0] 30 ∧ Blk W2 (w.heap.size + 1 + 1) #[.float .f32 x1, .float .f32 y1] 26 ∧ Blk W2 (w.heap.size + 1 + 1 + 1) #[.float .f64 u, .float .f64 q] 30) := by
      rw [← hW2]
      exact ⟨Blk.set2o HK1.out.1 (by omega) _ _, Blk.set2o HK1.out.2.1 (by omega) _ _, Blk.set2 HK1.out.2.2.1 _ _, Blk.set2o HK1.out.2.2.2 (by omega) _ _⟩
    have hcw := rangeAt_below HR.out HB2.out hcb
    have hd0 : W2.cell? ⟨b, off + j * 2, none⟩ = some (.float .f32 p) := hcw 0 _ rfl
    have hd1 : W2.cell? ⟨b, off + j * 2 + 1, none⟩ = some (.float .f32 r) := hcw 1 _ rfl
    rw [← hW2] at hd0 hd1
    clear hcw hx1 hy1 b1 BW hW2
    go_wp2_with (fail)
    rw [HW2.out]
    refine (widM_c p r _).mono ?_
    rintro e w3 ⟨u3, q3, rfl, hu3, hq3, b3⟩
    have HB3 : Hid (Below w.heap.size w w3) := HB2.out.trans (b3.mono HB2.out.size)
    have HK3 : Hid (Blk w3 w.heap.size #[.float .f32 0, .float .f32 0] 26 ∧ Blk w3 (w.heap.size + 1) #[.float .f64 0, .float .f64 0] 30 ∧ Blk w3 (w.heap.size + 1 + 1) #[.float .f32 x1, .float .f32 y1] 26 ∧ Blk w3 (w.heap.size + 1 + 1 + 1) #[.float .f64 u, .float .f64 q] 30) :=
      ⟨HK2.out.1.below b3 HK2.out.1.lt, HK2.out.2.1.below b3 HK2.out.2.1.lt, HK2.out.2.2.1.below b3 HK2.out.2.2.1.lt, HK2.out.2.2.2.below b3 HK2.out.2.2.2.lt⟩
    have HU3 : Hid (fc .f64 u3 = (fc .f32 p).map wid) := hu3
    have HQ3 : Hid (fc .f64 q3 = (fc .f32 r).map wid) := hq3
    have HSZ : Hid (w.heap.size + 1 + 1 + 1 < w3.heap.size) := HK3.out.2.2.2.lt
    have v0 := HK3.out.2.2.2.cell 0
    have v1 := HK3.out.2.2.2.cell 1
    have e0 := HK3.out.2.2.2.frozen 0
    have e1 := HK3.out.2.2.2.frozen 1
    have hsz := HSZ.out
    simp at v0 v1
    clear hd0 hd1 z0 z1 f0 f1 b3 hu3 hq3 HS
    go_wp2
    go_roundw
    case rel =>
      refine ⟨j + 1, x1, y1, _, _, by have := HN.out; omega, by go_num, ⟨HX1.out, HY1.out, ?_, ?_⟩, ⟨Blk.set2o ((HK3.out.1.alloc _).drewN _) (by omega) _ _, Blk.set2o ((HK3.out.2.1.alloc _).drewN _) (by omega) _ _, Blk.set2o ((HK3.out.2.2.1.alloc _).drewN _) (by omega) _ _, Blk.set2 ((HK3.out.2.2.2.alloc _).drewN _) _ _⟩, below_set2 (below_drewN (HB3.out.alloc HB3.out.size _) _) _ (by omega) _ _⟩
      · rw [fc_fv, HF.out.2.2.1, HU3.out]; show _ = fo _ _ _ _; rw [HG.out]
      · rw [fc_fv, HF.out.2.2.2, HQ3.out]; show _ = fo _ _ _ _; rw [HG.out]
    case measure => simp [intOf]; omega

end Go.Proofs.Ytfbegonnbdakpaa
