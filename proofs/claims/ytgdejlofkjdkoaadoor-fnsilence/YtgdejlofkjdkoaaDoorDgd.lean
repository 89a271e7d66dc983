/- Digit of the program; the two tables are as they were laid. -/
import Derived.Test.YtgdejlofkjdkoaaDoorDgp
namespace Go.Proofs.YtgdejlofkjdkoaaDoor
open Go.RowKit Go.ChangeShapes Go.WideShapes Go.ChangeAt
set_option linter.unusedVariables false
set_option linter.unusedSimpArgs false
set_option maxRecDepth 8000

/-- the boxes of four and four -/
structure F2 (w : World) (g : Nat) (p q : Nat → Int) (W : World) : Prop where
  r : Blk W g (A4 p) 43
  c : Blk W (g + 1) (A4 q) 43
  b : Below w.heap.size w W
theorem F2.call {w : World} {g : Nat} {p q : Nat → Int} {W W' : World} (h : F2 w g p q W) (hb : Below W.heap.size W W') : F2 w g p q W' := ⟨h.r.below hb h.r.lt, h.c.below hb h.c.lt, belowCall h.b hb h.b.size⟩
set_option maxHeartbeats 6400000 in
theorem digitI_c (v : Value) (zs : List Int) (w : World) (h : Rd .i64 w v zs) (hG : RcG w) : Calls Tryd.prog 12 #[v] w fun e w' => e = .returned (.int .i64 (dgF zs)) ∧ Below w.heap.size w w' := by
  have HR : Hid (Rd .i64 w v zs) := h
  have HB : Hid (Below w.heap.size w w) := Below.refl _ _
  have HG : Hid (RcG w) := hG
  obtain ⟨a, cap, rfl, h1, h2, -⟩ := h
  unfold maxLen at h2
  clear hG
  obtain ⟨r, hr⟩ : ∃ r, bst (rwP zs) 4 = r := ⟨_, rfl⟩
  obtain ⟨c, hc⟩ : ∃ r, bst (clP zs) 4 = r := ⟨_, rfl⟩
  have hrl : r < 4 := by have h3 : bst (rwP zs) 4 ≤ 3 := bst_le (rwP zs) 3; omega
  have hcl : c < 4 := by have h3 : bst (clP zs) 4 ≤ 3 := bst_le (clP zs) 3; omega
  have HD : Hid (dgF zs = if (decide (zs.length = 128) && lvB zs && dgB zs (rwP zs r) (clP zs c) (outB (rwP zs) r 4) (outB (clP zs) c 4)) = true then 4 * (r : Int) + c else -1) := by show _ = _; unfold dgF; rw [hr, hc]
  have HRR : Hid (bst (rwP zs) 4 = r) := hr
  have HCC : Hid (bst (clP zs) 4 = c) := hc
  clear hr hc
  by_cases hl : zs.length = 128
  case neg =>
    have hld : ((zs.length : Int) != 128) = true := by simp; omega
    have HF : Hid (dgF zs = -1) := by show _ = _; rw [HD.out]; simp [hl]
    clear hl
    go_enter Tryd.func12, Tryd.ntmps12
    go_wp2
    go_ret
    exact ⟨by rw [HF.out]; rfl, HB.out⟩
  have hld : ((zs.length : Int) != 128) = false := by simp; omega
  have HL : Hid (decide (zs.length = 128) = true) := by show _ = _; simp; exact hl
  have hl' : zs.length ≤ 128 := by omega
  have HLE : Hid (zs.length = 128) := hl
  clear hl
  go_enter Tryd.func12, Tryd.ntmps12
  go_wp2_with (fail)
  refine (levels_c _ zs _ HR.out).mono ?_
  rintro e w1 ⟨rfl, b1⟩
  have HB1 : Hid (Below w.heap.size w w1) := b1
  obtain ⟨x, hx⟩ : ∃ x, lvB zs = x := ⟨_, rfl⟩
  rw [hx]
  have HX : Hid (lvB zs = x) := hx
  clear b1 hx
  cases x with
  | false =>
    have HF : Hid (dgF zs = -1) := by show _ = _; rw [HD.out, HX.out]; simp
    go_wp2
    go_ret
    exact ⟨by rw [HF.out]; rfl, HB1.out⟩
  | true =>
  have HLV : Hid (lvP zs) := lvB_P HX.out
  have HBP : Hid (∀ i, i < 4 → 0 ≤ rwP zs i ∧ rwP zs i ≤ 35184372088832) := fun i _ => pw_bd HLV.out hl' _
  have HBC : Hid (∀ i, i < 4 → 0 ≤ clP zs i ∧ clP zs i ≤ 35184372088832) := fun i _ => pw_bd HLV.out hl' _
  go_wp2_with (fail)
  refine (powersI_c _ zs hl' HLV.out w1 (HR.out.below HB1.out) (HG.out.below HB1.out)).mono ?_
  rintro e w2 ⟨rfl, b2⟩
  have HB2 : Hid (Below w.heap.size w w2) := belowCall HB1.out b2 HB1.out.size
  clear b2
  obtain ⟨g, hg⟩ : ∃ g, w2.heap.size = g := ⟨_, rfl⟩
  obtain ⟨W3, hW3⟩ : ∃ W, (w2.alloc (Obj.cells #[.int .i64 0, .int .i64 0, .int .i64 0, .int .i64 0] 43)).alloc (Obj.cells #[.int .i64 0, .int .i64 0, .int .i64 0, .int .i64 0] 43) = W := ⟨_, rfl⟩
  have HK3 : Hid (Blk W3 g #[.int .i64 0, .int .i64 0, .int .i64 0, .int .i64 0] 43 ∧ Blk W3 (g + 1) #[.int .i64 0, .int .i64 0, .int .i64 0, .int .i64 0] 43) := by
    rw [← hW3, ← hg]
    exact ⟨(Blk.new _ _ _).alloc _, Blk.newAt _ _ _ _ (by simp)⟩
  have HB3 : Hid (Below w.heap.size w W3) := by rw [← hW3]; exact (HB2.out.alloc HB2.out.size _).alloc (by simp; have := HB2.out.size; omega) _
  have HGW : Hid (w.heap.size ≤ g) := by rw [← hg]; exact HB2.out.size
  obtain ⟨W4, hW4⟩ : ∃ W, W3.setRow g (A4 (rwP zs)) = W := ⟨_, rfl⟩
  have HK4 : Hid (Blk W4 g (A4 (rwP zs)) 43 ∧ Blk W4 (g + 1) #[.int .i64 0, .int .i64 0, .int .i64 0, .int .i64 0] 43) := by rw [← hW4]; exact ⟨HK3.out.1.row _, HK3.out.2.rowOther _ _ (by omega)⟩
  have HB4 : Hid (Below w.heap.size w W4) := by rw [← hW4]; exact belowRow HB3.out _ HGW.out _
  obtain ⟨W5, hW5⟩ : ∃ W, W4.setRow (g + 1) (A4 (clP zs)) = W := ⟨_, rfl⟩
  have HF5 : Hid (F2 w g (rwP zs) (clP zs) W5) := by rw [← hW5]; exact ⟨HK4.out.1.rowOther _ _ (by omega), HK4.out.2.row _, belowRow HB4.out _ (by have := HGW.out; omega) _⟩
  have HW4 : Hid (W3.setRow g (A4 (rwP zs)) = W4) := hW4
  have HW5 : Hid (W4.setRow (g + 1) (A4 (clP zs)) = W5) := hW5
  clear hW4 hW5
  have ar0 : W5.cell? ⟨g, 0, none⟩ = some (.int .i64 (rwP zs 0)) := HF5.out.r.cell 0
  have ac0 : W5.cell? ⟨g + 1, 0, none⟩ = some (.int .i64 (clP zs 0)) := HF5.out.c.cell 0
  have ar1 : W5.cell? ⟨g, 1, none⟩ = some (.int .i64 (rwP zs 1)) := HF5.out.r.cell 1
  have ac1 : W5.cell? ⟨g + 1, 1, none⟩ = some (.int .i64 (clP zs 1)) := HF5.out.c.cell 1
  have ar2 : W5.cell? ⟨g, 2, none⟩ = some (.int .i64 (rwP zs 2)) := HF5.out.r.cell 2
  have ac2 : W5.cell? ⟨g + 1, 2, none⟩ = some (.int .i64 (clP zs 2)) := HF5.out.c.cell 2
  have ar3 : W5.cell? ⟨g, 3, none⟩ = some (.int .i64 (rwP zs 3)) := HF5.out.r.cell 3
  have ac3 : W5.cell? ⟨g + 1, 3, none⟩ = some (.int .i64 (clP zs 3)) := HF5.out.c.cell 3
  go_wp2_with (first | (rw [hg, hW3]) | (refine wpList_store_row rfl 43 _ _ rfl g _ rfl rfl 43 #[.int .i64 0, .int .i64 0, .int .i64 0, .int .i64 0] HK3.out.1 sizeA4 rfl (by simp [A4, Value.oneCell']) ?_; rw [HW4.out]) | (refine wpList_store_row rfl 43 _ _ rfl (g + 1) _ rfl rfl 43 #[.int .i64 0, .int .i64 0, .int .i64 0, .int .i64 0] HK4.out.2 sizeA4 rfl (by simp [A4, Value.oneCell']) ?_; rw [HW5.out]) | fail)
  clear ar0 ac0 ar1 ac1 ar2 ac2 ar3 ac3 hW3 hg HK3 HK4 HW4 HW5 HB3 HB4
  obtain ⟨S, hS⟩ : ∃ S : World → Prop, ∀ W, S W ↔ Below W5.heap.size W5 W := ⟨_, fun _ => Iff.rfl⟩
  have ySr0 : ∀ W : At S, W.wd.cell? ⟨g, 0, none⟩ = some (.int .i64 (rwP zs 0)) := fun W => (HF5.out.call ((hS _).1 W.ok)).r.cell 0
  have ySc0 : ∀ W : At S, W.wd.cell? ⟨g + 1, 0, none⟩ = some (.int .i64 (clP zs 0)) := fun W => (HF5.out.call ((hS _).1 W.ok)).c.cell 0
  have ySr1 : ∀ W : At S, W.wd.cell? ⟨g, 1, none⟩ = some (.int .i64 (rwP zs 1)) := fun W => (HF5.out.call ((hS _).1 W.ok)).r.cell 1
  have ySc1 : ∀ W : At S, W.wd.cell? ⟨g + 1, 1, none⟩ = some (.int .i64 (clP zs 1)) := fun W => (HF5.out.call ((hS _).1 W.ok)).c.cell 1
  have ySr2 : ∀ W : At S, W.wd.cell? ⟨g, 2, none⟩ = some (.int .i64 (rwP zs 2)) := fun W => (HF5.out.call ((hS _).1 W.ok)).r.cell 2
  have ySc2 : ∀ W : At S, W.wd.cell? ⟨g + 1, 2, none⟩ = some (.int .i64 (clP zs 2)) := fun W => (HF5.out.call ((hS _).1 W.ok)).c.cell 2
  have ySr3 : ∀ W : At S, W.wd.cell? ⟨g, 3, none⟩ = some (.int .i64 (rwP zs 3)) := fun W => (HF5.out.call ((hS _).1 W.ok)).r.cell 3
  have ySc3 : ∀ W : At S, W.wd.cell? ⟨g + 1, 3, none⟩ = some (.int .i64 (clP zs 3)) := fun W => (HF5.out.call ((hS _).1 W.ok)).c.cell 3
  have HS : Hid (∀ W, S W ↔ Below W5.heap.size W5 W) := hS
  have HSD : Hid (S W5.drew) := (hS _).2 (Below.refl _ _).drew
  have ne : Nonempty (At S) := ⟨⟨_, HSD.out⟩⟩
  clear hS
  refine region_mixT [true, false, true, false, false, false] 6 4 S (by kernel_rfl) rfl (by kernel_rfl) (fun _ _ _ _ _ h => h) HSD.out ?_
  simp only [selT, selF]
  try simp only [Act.put]
  repeat (go_big_quiet_step (fail))
  refine wpQuiet_nil ?_
  refine tail_step ?_
  clear ySr0 ySc0 ySr1 ySc1 ySr2 ySc2 ySr3 ySc3 ne
  go_wp2_with (fail)
  refine (bestI_c (rwP zs) W5.drew).mono ?_
  rintro e w6 ⟨rfl, b6⟩
  have HB6 : Hid (Below W5.heap.size W5 w6) := (Below.refl _ _).drew.trans b6
  rw [HRR.out]
  clear b6
  go_wp2
  refine ⟨(HS.out _).2 HB6.out, tail_step ?_⟩
  go_wp2_with (fail)
  refine (bestI_c (clP zs) w6).mono ?_
  rintro e w7 ⟨rfl, b7⟩
  have HB7 : Hid (Below W5.heap.size W5 w7) := belowCall HB6.out b7 HB6.out.size
  rw [HCC.out]
  clear b7
  go_wp2
  refine ⟨(HS.out _).2 HB7.out, tail_step ?_⟩
  go_wp2
  refine ⟨(HS.out _).2 HB7.out, tail_step ?_⟩
  go_wp2
  refine ⟨(HS.out _).2 HB7.out, tail_end ?_⟩
  have HF7 : Hid (F2 w g (rwP zs) (clP zs) w7) := HF5.out.call HB7.out
  clear HB6 HB7 HS HSD HF5
  obtain ⟨W8, hW8⟩ : ∃ W, w7.drew = W := ⟨_, rfl⟩
  have HF8 : Hid (F2 w g (rwP zs) (clP zs) W8) := by rw [← hW8]; exact HF7.out.call (Below.refl _ _).drew
  have er := HF8.out.r.cell r
  rw [A4_at _ _ hrl] at er
  have ec := HF8.out.c.cell c
  rw [A4_at _ _ hcl] at ec
  have bP := HBP.out r hrl
  have bQ := HBC.out c hcl
  obtain ⟨P, hP⟩ : ∃ P, rwP zs r = P := ⟨_, rfl⟩
  obtain ⟨Q, hQ⟩ : ∃ Q, clP zs c = Q := ⟨_, rfl⟩
  have HPE : Hid (rwP zs r = P) := hP
  have HQE : Hid (clP zs c = Q) := hQ
  rw [hP] at er HD bP
  rw [hQ] at ec HD bQ
  clear hP hQ
  obtain ⟨S, hS⟩ : ∃ S : World → Prop, ∀ W, S W ↔ W = W8 := ⟨_, fun _ => Iff.rfl⟩
  have y1 : ∀ W : At S, W.wd.cell? ⟨g, r, none⟩ = some (.int .i64 P) := fun W => by rw [(hS _).1 W.ok]; exact er
  have y2 : ∀ W : At S, W.wd.cell? ⟨g + 1, c, none⟩ = some (.int .i64 Q) := fun W => by rw [(hS _).1 W.ok]; exact ec
  have HS8 : Hid (S W8) := (hS _).2 rfl
  have HW8 : Hid (w7.drew = W8) := hW8
  have ne : Nonempty (At S) := ⟨⟨_, HS8.out⟩⟩
  have hi1 : (0 : Int) ≤ (r : Int) := by omega
  have hi2 : (r : Int) < 4 := by omega
  have hi3 : (0 : Int) ≤ (c : Int) := by omega
  have hi4 : (c : Int) < 4 := by omega
  clear hS er ec hW8
  go_wp2
  refine region_mixT [true, true, true, true, true, true, false, false] 8 2 S (by kernel_rfl) rfl (by kernel_rfl) (fun _ _ _ _ _ h => h) (by rw [HW8.out]; exact HS8.out) ?_
  simp only [selT, selF]
  try simp only [Act.put]
  repeat (go_big_quiet_step (fail))
  refine wpQuiet_nil ?_
  refine tail_step ?_
  rw [HW8.out]
  clear y1 y2 ne HW8
  go_wp2
  refine ⟨HS8.out, tail_step ?_⟩
  go_wp2
  refine ⟨HS8.out, tail_end ?_⟩
  clear HF7 HS8
  have ar0 : W8.cell? ⟨g, 0, none⟩ = some (.int .i64 (rwP zs 0)) := HF8.out.r.cell 0
  have ar1 : W8.cell? ⟨g, 1, none⟩ = some (.int .i64 (rwP zs 1)) := HF8.out.r.cell 1
  have ar2 : W8.cell? ⟨g, 2, none⟩ = some (.int .i64 (rwP zs 2)) := HF8.out.r.cell 2
  have ar3 : W8.cell? ⟨g, 3, none⟩ = some (.int .i64 (rwP zs 3)) := HF8.out.r.cell 3
  go_wp2_with (fail)
  refine (outI_c (rwP zs) HBP.out r hrl W8).mono ?_
  rintro e wA ⟨rfl, b⟩
  have HFA : Hid (F2 w g (rwP zs) (clP zs) wA) := HF8.out.call b
  rw [HPE.out]
  clear b ar0 ar1 ar2 ar3
  obtain ⟨k1, hk1⟩ : ∃ x, (outB (rwP zs) r 4 && decide (1000000 ≤ P)) = x := ⟨_, rfl⟩
  rw [hk1]
  have HK1 : Hid ((outB (rwP zs) r 4 && decide (1000000 ≤ P)) = k1) := hk1
  clear hk1
  cases k1 with
  | false =>
    have HN : Hid (dgF zs = -1) := by
      show _ = _
      rw [HD.out, if_neg]
      have h := HK1.out
      unfold dgB
      intro hh
      simp only [Bool.and_eq_true] at hh
      rw [hh.2.1.1.1.1.1.1, hh.2.1.1.1.1.2] at h
      cases h
    go_wp2
    go_ret
    exact ⟨by rw [HN.out]; rfl, HFA.out.b⟩
  | true =>
  have ac0 : wA.cell? ⟨g + 1, 0, none⟩ = some (.int .i64 (clP zs 0)) := HFA.out.c.cell 0
  have ac1 : wA.cell? ⟨g + 1, 1, none⟩ = some (.int .i64 (clP zs 1)) := HFA.out.c.cell 1
  have ac2 : wA.cell? ⟨g + 1, 2, none⟩ = some (.int .i64 (clP zs 2)) := HFA.out.c.cell 2
  have ac3 : wA.cell? ⟨g + 1, 3, none⟩ = some (.int .i64 (clP zs 3)) := HFA.out.c.cell 3
  go_wp2_with (fail)
  refine (outI_c (clP zs) HBC.out c hcl wA).mono ?_
  rintro e wB ⟨rfl, b⟩
  have HFB : Hid (F2 w g (rwP zs) (clP zs) wB) := HFA.out.call b
  rw [HQE.out]
  clear b ac0 ac1 ac2 ac3
  obtain ⟨k2, hk2⟩ : ∃ x, (outB (clP zs) c 4 && decide (1000000 ≤ Q)) = x := ⟨_, rfl⟩
  rw [hk2]
  have HK2 : Hid ((outB (clP zs) c 4 && decide (1000000 ≤ Q)) = k2) := hk2
  clear hk2
  cases k2 with
  | false =>
    have HN : Hid (dgF zs = -1) := by
      show _ = _
      rw [HD.out, if_neg]
      have h := HK2.out
      unfold dgB
      intro hh
      simp only [Bool.and_eq_true] at hh
      rw [hh.2.1.1.1.1.1.2, hh.2.1.1.1.2] at h
      cases h
    go_wp2
    go_ret
    exact ⟨by rw [HN.out]; rfl, HFB.out.b⟩
  | true =>
  go_wp2_with (fail)
  refine (alikeI_c P Q bP bQ wB).mono ?_
  rintro e w9 ⟨rfl, hw⟩
  rw [hw]
  clear hw w9
  obtain ⟨k3, hk3⟩ : ∃ x, (decide (P ≤ 8 * Q) && decide (Q ≤ 8 * P)) = x := ⟨_, rfl⟩
  rw [hk3]
  have HK3 : Hid ((decide (P ≤ 8 * Q) && decide (Q ≤ 8 * P)) = k3) := hk3
  clear hk3
  cases k3 with
  | false =>
    have HN : Hid (dgF zs = -1) := by
      show _ = _
      rw [HD.out, if_neg]
      have h := HK3.out
      unfold dgB
      intro hh
      simp only [Bool.and_eq_true] at hh
      rw [hh.2.1.1.2, hh.2.1.2] at h
      cases h
    go_wp2
    go_ret
    exact ⟨by rw [HN.out]; rfl, HFB.out.b⟩
  | true =>
  go_wp2_with (fail)
  refine (mostI_c (P + Q) (by omega) _ zs HLE.out HLV.out wB (HR.out.below HFB.out.b)).mono ?_
  rintro e wC ⟨rfl, b⟩
  have HFC : Hid (F2 w g (rwP zs) (clP zs) wC) := HFB.out.call b
  clear b
  obtain ⟨k4, hk4⟩ : ∃ x, decide (128 * enF zs 128 ≤ 4 * (P + Q)) = x := ⟨_, rfl⟩
  rw [hk4]
  have HK4' : Hid (decide (128 * enF zs 128 ≤ 4 * (P + Q)) = k4) := hk4
  clear hk4
  cases k4 with
  | false =>
    have HN : Hid (dgF zs = -1) := by
      show _ = _
      rw [HD.out, if_neg]
      have h := HK4'.out
      unfold dgB
      intro hh
      simp only [Bool.and_eq_true] at hh
      rw [hh.2.2] at h
      cases h
    go_wp2
    go_ret
    exact ⟨by rw [HN.out]; rfl, HFC.out.b⟩
  | true =>
  have HN : Hid (dgF zs = 4 * (r : Int) + c) := by
    show _ = _
    rw [HD.out, if_pos]
    have h1 := HK1.out
    have h2 := HK2.out
    have h3 := HK3.out
    rw [Bool.and_eq_true] at h1 h2 h3
    unfold dgB
    rw [HL.out, HX.out, h1.1, h1.2, h2.1, h2.2, h3.1, h3.2, HK4'.out]
    rfl
  have hfin : 4 * (r : Int) + c = (r : Int) * 4 + c := by omega
  go_wp2
  go_ret
  exact ⟨by rw [HN.out, hfin]; rfl, HFC.out.b⟩

end Go.Proofs.YtgdejlofkjdkoaaDoor
