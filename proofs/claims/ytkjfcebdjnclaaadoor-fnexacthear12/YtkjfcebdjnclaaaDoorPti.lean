/- The program: a packet is put; no condition. -/
import Derived.Test.YtkjfcebdjnclaaaDoorIns
import Derived.Test.YtkjfcebdjnclaaaDoorPtm
import Derived.Test.YtkjfcebdjnclaaaDoorPli
namespace Go.Proofs.YtkjfcebdjnclaaaDoor
open Go.RowKit Go.ChangeShapes Go.WideShapes Go.ChangeAt
set_option linter.unusedVariables false
set_option linter.unusedSimpArgs false
set_option maxRecDepth 8000

def WiR (st : List Pk) (w : World) (e : Ending) (w' : World) : Prop := ∃ v', e = .returned v' ∧ Og 18 pkC 40 w.heap.size w' v' st ∧ Below w.heap.size w w'
set_option maxHeartbeats 6400000 in
theorem with_c (v : Value) (ls : List Pk) (i : Nat) (k : Pk) (w : World) (h : Rg 18 pkC w v ls) (hi : i ≤ ls.length) (hn : ls.length ≤ 1048576) : Calls Tryd.prog 81 #[v, .int .i64 (i : Int), .agg (pkA k)] w (WiR (ls.take i ++ k :: ls.drop i) w) := by
  have HR : Hid (Rg 18 pkC w v ls) := h
  obtain ⟨a, cap, rfl, -⟩ := h
  obtain ⟨g, hg⟩ : ∃ g, w.heap.size = g := ⟨_, rfl⟩
  obtain ⟨W0, hW0⟩ : ∃ W, w.alloc (Obj.cells (pkA k) 40) = W := ⟨_, rfl⟩
  have HB0 : Hid (Below w.heap.size w W0) := by rw [← hW0]; exact (Below.refl _ _).alloc (Nat.le_refl _) _
  have HK0 : Hid (Blk W0 g (pkA k) 40) := by rw [← hW0, ← hg]; exact Blk.new _ _ _
  have HW0 : Hid (w.alloc (Obj.cells (pkA k) 40) = W0 ∧ w.heap.size = g) := ⟨hW0, hg⟩
  have HGG : Hid (w.heap.size = g) := hg
  have HLN : Hid (i ≤ ls.length ∧ ls.length ≤ 1048576) := ⟨hi, hn⟩
  clear hW0 hg hi hn
  go_enter Tryd.func81, Tryd.ntmps81
  go_upto_region 1 with fail
  rw [HW0.out.1, HW0.out.2]
  clear HW0
  obtain ⟨wa, hwa⟩ : ∃ W, W0.drew = W := ⟨_, rfl⟩
  obtain ⟨S, hS⟩ : ∃ S : World → Prop, ∀ W, S W ↔ Blk W g (pkA k) 40 := ⟨_, fun _ => Iff.rfl⟩
  have HRG : Hid (∀ W : At S, W.wd.rangeAt g 0 (pkC k)) := fun W => blk_range ((hS _).1 W.ok)
  have HSI : Hid (∀ W, Blk W g (pkA k) 40 → S W) := fun W h => (hS W).2 h
  have Ba : Below w.heap.size w wa := by rw [← hwa]; exact HB0.out.drew
  have HBa : Hid (Below w.heap.size w wa) := Ba
  have HKa : Hid (Blk wa g (pkA k) 40) := by rw [← hwa]; exact HK0.out
  have HSD : Hid (S W0.drew) := by show S W0.drew; rw [hwa]; exact HSI.out _ HKa.out
  have HRa : Hid (Rg 18 pkC wa (.slice a ls.length cap) ls) := HR.out.below Ba
  have HGa : Hid (g < wa.heap.size) := HKa.out.lt
  clear hS Ba HB0 HK0
  have ne1 : Nonempty (At S) := ⟨⟨W0.drew, HSD.out⟩⟩
  refine region_anyS S (by kernel_rfl) ?_
  refine anyS_quiet [true, false, true, true, false, false, false] 4 rfl (by kernel_rfl) (fun _ _ _ _ _ h => h) HSD.out ?_
  simp only [selT]
  iterate 2 (go_big_quiet_step (fail))
  refine BigFrame.wpQuiet_want rfl fun K hK => quietLdM _ rfl g 0 rfl k (fun w hw => by obtain ⟨W, rfl⟩ := hw; exact HRG.out W) (hK _ ?_)
  clear hK K
  simp only [Act.put, List.setIfInBounds_toArray, List.set_cons_succ, List.set_cons_zero]
  refine wpQuiet_nil ?_
  rw [hwa]
  clear hwa ne1 HRG HSD
  refine anyS_two 1 4 (by kernel_rfl) rfl rfl ?_ ?_
  · go_wp2_with (fail)
    refine (clonL_c _ ls wa HRa.out (by have := HLN.out.2; omega)).mono ?_
    rintro e w1 ⟨v1, rfl, o1, b1⟩
    have HK1 : Hid (Blk w1 g (pkA k) 40) := HKa.out.below b1 HKa.out.lt
    have HB1 : Hid (Below w.heap.size w w1) := belowCall HBa.out b1 HBa.out.size
    have HO1 : Hid (Og 18 pkC 40 wa.heap.size w1 v1 ls) := o1
    have HZ1 : Hid (wa.heap.size ≤ w1.heap.size) := b1.size
    clear o1 b1
    go_wp2
    refine ⟨HSI.out _ HK1.out, ?_⟩
    refine anyS_one 4 (by kernel_rfl) rfl ?_
    refine bsP rfl _ rfl k rfl ?_
    refine wpList_nil ?_
    obtain ⟨vb, hvb⟩ : ∃ X, w1.heap.size = X := ⟨_, rfl⟩
    obtain ⟨w2, hw2⟩ : ∃ W, w1.alloc (.cells (pkA k) 40) = W := ⟨_, rfl⟩
    have al : Below w1.heap.size w1 w2 := by rw [← hw2]; exact (Below.refl _ _).alloc (Nat.le_refl _) _
    have HK2 : Hid (Blk w2 g (pkA k) 40) := HK1.out.below al HK1.out.lt
    have HB2 : Hid (Below w.heap.size w w2) := belowCall HB1.out al HB1.out.size
    have HO2 : Hid (Og 18 pkC 40 wa.heap.size w2 v1 ls) := HO1.out.below al
    have HV2 : Hid (Blk w2 vb (pkA k) 40) := by rw [← hw2, ← hvb]; exact Blk.new _ _ _
    have HN2 : Hid (v1.ownBlock ≠ some vb) := fun e => by have := (HO1.out.lt vb e).2; omega
    have HZ2 : Hid (wa.heap.size ≤ w2.heap.size) := Nat.le_trans HZ1.out al.size
    rw [hw2, hvb]
    clear hw2 hvb al HK1 HB1 HO1 HZ1
    refine ⟨HSI.out _ HK2.out, ?_⟩
    refine anyS_one 5 (by kernel_rfl) rfl ?_
    go_wp2_with (fail)
    refine (insert_c wa.heap.size v1 ls i k vb w2 HO2.out HLN.out.1 HV2.out HN2.out HLN.out.2 HZ2.out).mono ?_
    rintro e w3 ⟨v3, rfl, o3, g3⟩
    have hrow : ∀ m, v1.ownBlock = some m → wa.heap.size ≤ m := fun m e => (HO2.out.lt m e).1
    have HK3 : Hid (Blk w3 g (pkA k) 40) := HK2.out.grown g3 (fun e => by have := hrow _ e.symm; have := HGa.out; omega)
    have HB3 : Hid (Below w.heap.size w w3) := HB2.out.trans (grown_below g3 HB2.out.size (fun m e => by have := hrow _ e; have := HBa.out.size; omega))
    have HO3 : Hid (Og 18 pkC 40 w.heap.size w3 v3 (ls.take i ++ k :: ls.drop i)) := Og.mono o3 HBa.out.size
    clear o3 g3 hrow
    go_wp2
    refine ⟨HSI.out _ HK3.out, ?_⟩
    refine anyS_one 6 (by kernel_rfl) rfl ?_
    go_wp2
    refine ⟨HSI.out _ HK3.out, ?_⟩
    refine anyS_end (by kernel_rfl) ?_
    go_wp2
    go_ret
    exact ⟨_, rfl, HO3.out, HB3.out⟩
  · refine bsP rfl _ rfl k rfl ?_
    refine wpList_nil ?_
    obtain ⟨vb, hvb⟩ : ∃ X, wa.heap.size = X := ⟨_, rfl⟩
    obtain ⟨w1, hw1⟩ : ∃ W, wa.alloc (.cells (pkA k) 40) = W := ⟨_, rfl⟩
    have al : Below wa.heap.size wa w1 := by rw [← hw1]; exact (Below.refl _ _).alloc (Nat.le_refl _) _
    have HK1 : Hid (Blk w1 g (pkA k) 40) := HKa.out.below al HKa.out.lt
    have HB1 : Hid (Below w.heap.size w w1) := belowCall HBa.out al HBa.out.size
    have HR1 : Hid (Rg 18 pkC w1 (.slice a ls.length cap) ls) := HRa.out.below al
    have HV1 : Hid (Blk w1 vb (pkA k) 40) := by rw [← hw1, ← hvb]; exact Blk.new _ _ _
    have HZ1 : Hid (wa.heap.size ≤ w1.heap.size) := al.size
    rw [hw1, hvb]
    clear hw1 hvb al
    refine ⟨HSI.out _ HK1.out, ?_⟩
    refine anyS_one 1 (by kernel_rfl) rfl ?_
    go_wp2_with (fail)
    refine (clonL_c _ ls w1 HR1.out (by have := HLN.out.2; omega)).mono ?_
    rintro e w2 ⟨v1, rfl, o2, b2⟩
    have HK2 : Hid (Blk w2 g (pkA k) 40) := HK1.out.below b2 HK1.out.lt
    have HB2 : Hid (Below w.heap.size w w2) := belowCall HB1.out b2 HB1.out.size
    have HN2 : Hid (v1.ownBlock ≠ some vb) := fun e => by have h1 := (o2.lt vb e).1; have h2 := HV1.out.lt; omega
    have HO2 : Hid (Og 18 pkC 40 wa.heap.size w2 v1 ls) := Og.mono o2 HZ1.out
    have HV2 : Hid (Blk w2 vb (pkA k) 40) := HV1.out.below b2 HV1.out.lt
    have HZ2 : Hid (wa.heap.size ≤ w2.heap.size) := Nat.le_trans HZ1.out b2.size
    clear o2 b2 HK1 HB1 HR1 HV1 HZ1
    go_wp2
    refine ⟨HSI.out _ HK2.out, ?_⟩
    refine anyS_one 5 (by kernel_rfl) rfl ?_
    go_wp2_with (fail)
    refine (insert_c wa.heap.size v1 ls i k vb w2 HO2.out HLN.out.1 HV2.out HN2.out HLN.out.2 HZ2.out).mono ?_
    rintro e w3 ⟨v3, rfl, o3, g3⟩
    have hrow : ∀ m, v1.ownBlock = some m → wa.heap.size ≤ m := fun m e => (HO2.out.lt m e).1
    have HK3 : Hid (Blk w3 g (pkA k) 40) := HK2.out.grown g3 (fun e => by have := hrow _ e.symm; have := HGa.out; omega)
    have HB3 : Hid (Below w.heap.size w w3) := HB2.out.trans (grown_below g3 HB2.out.size (fun m e => by have := hrow _ e; have := HBa.out.size; omega))
    have HO3 : Hid (Og 18 pkC 40 w.heap.size w3 v3 (ls.take i ++ k :: ls.drop i)) := Og.mono o3 HBa.out.size
    clear o3 g3 hrow
    go_wp2
    refine ⟨HSI.out _ HK3.out, ?_⟩
    refine anyS_one 6 (by kernel_rfl) rfl ?_
    go_wp2
    refine ⟨HSI.out _ HK3.out, ?_⟩
    refine anyS_end (by kernel_rfl) ?_
    go_wp2
    go_ret
    exact ⟨_, rfl, HO3.out, HB3.out⟩

set_option maxHeartbeats 12800000 in
theorem putI_c (p : Pl) (k : Pk) (v : Value) (ls : List Pk) (w : World) (h : Rg 18 pkC w v ls) (hn : ls.length ≤ 1048576) : Calls Tryd.prog 27 #[.agg (plA p v), .agg (pkA k)] w fun e w' => (PuP p k ls → PuR (puF p k ls).1 (puF p k ls).2 true w e w') ∧ (¬ PuP p k ls → PuR p ls false w e w') := by
  have HR : Hid (Rg 18 pkC w v ls) := h
  have HN : Hid (ls.length ≤ 1048576) := hn
  obtain ⟨a, cap, rfl, h1, h2, -⟩ := h
  obtain ⟨W2, hW2⟩ : ∃ W, ((w.alloc (Obj.cells (plA p (.slice a ls.length cap)) 42)).alloc (Obj.cells (pkA k) 40)).alloc (Obj.cells (plA ⟨0, 0, 0, 0, 0⟩ (.slice none 0 0)) 42) = W := ⟨_, rfl⟩
  obtain ⟨g, hg⟩ : ∃ g, w.heap.size = g := ⟨_, rfl⟩
  have HB2 : Hid (Below w.heap.size w W2) := by rw [← hW2]; exact (((Below.refl _ _).alloc (Nat.le_refl _) _).alloc (by simp) _).alloc (by simp; omega) _
  have HP2 : Hid (Blk W2 g (plA p (.slice a ls.length cap)) 42) := by rw [← hW2, ← hg]; exact ((Blk.new _ _ _).alloc _).alloc _
  have HK2 : Hid (Blk W2 (g + 1) (pkA k) 40) := by rw [← hW2, ← hg]; exact (Blk.newAt _ _ _ _ (by simp)).alloc _
  have HZ2 : Hid (Blk W2 (g + 2) (plA ⟨0, 0, 0, 0, 0⟩ (.slice none 0 0)) 42) := by rw [← hW2, ← hg]; exact Blk.newAt _ _ _ _ (by simp)
  have HGG : Hid (w.heap.size = g) := hg
  have HG2 : Hid (g + 2 < W2.heap.size) := HZ2.out.lt
  have HW2 : Hid (((w.alloc (Obj.cells (plA p (.slice a ls.length cap)) 42)).alloc (Obj.cells (pkA k) 40)).alloc (Obj.cells (plA ⟨0, 0, 0, 0, 0⟩ (.slice none 0 0)) 42) = W2) := hW2
  clear hn hW2 hg
  have x0 := HP2.out.cell 0
  have x1 := HP2.out.cell 1
  have x2 := HP2.out.cell 2
  have x3 := HP2.out.cell 3
  have x4 := HP2.out.cell 4
  have x5 := HP2.out.cell 5
  simp at x0 x1 x2 x3 x4 x5
  go_enter Tryd.func27, Tryd.ntmps27
  go_upto_region 1 with fail
  rw [HW2.out, HGG.out]
  go_wp2_with (fail)
  refine (plI_c p _ ls W2 (HR.out.below HB2.out)).mono ?_
  rintro e w3 ⟨r, rfl, hr, b3⟩
  have HP3 : Hid (Blk w3 g (plA p (.slice a ls.length cap)) 42) := HP2.out.below b3 HP2.out.lt
  have HK3 : Hid (Blk w3 (g + 1) (pkA k) 40) := HK2.out.below b3 HK2.out.lt
  have HZ3 : Hid (Blk w3 (g + 2) (plA ⟨0, 0, 0, 0, 0⟩ (.slice none 0 0)) 42) := HZ2.out.below b3 HZ2.out.lt
  have HB3 : Hid (Below w.heap.size w w3) := belowCall HB2.out b3 HB2.out.size
  have HS3 : Hid (W2.heap.size ≤ w3.heap.size) := b3.size
  have HRR : Hid (r = true ↔ PlP p ∧ StOk p.n ls) := hr
  clear hr b3 HP2 HK2 HZ2 HB2 HW2 x0 x1 x2 x3 x4 x5
  cases r
  · have HNP : Hid (¬ PuP p k ls) := fun h => by have := HRR.out.2 h.1; cases this
    have x0 := HP3.out.cell 0
    have x1 := HP3.out.cell 1
    have x2 := HP3.out.cell 2
    have x3 := HP3.out.cell 3
    have x4 := HP3.out.cell 4
    have x5 := HP3.out.cell 5
    simp at x0 x1 x2 x3 x4 x5
    go_wp2_with (fail)
    refine (copyI_c p _ ls w3 (HR.out.below HB3.out) HN.out).mono ?_
    rintro e wz ⟨vz, rfl, oz, bz⟩
    obtain ⟨az, cz, rfl⟩ := oz.form
    have HZz : Hid (Blk wz (g + 2) (plA ⟨0, 0, 0, 0, 0⟩ (.slice none 0 0)) 42) := HZ3.out.below bz HZ3.out.lt
    have HBz : Hid (Below w.heap.size w wz) := belowCall HB3.out bz HB3.out.size
    have HOz : Hid (Og 18 pkC 40 W2.heap.size wz (.slice az ls.length cz) ls) := Og.mono oz HS3.out
    clear oz bz x0 x1 x2 x3 x4 x5
    go_wp2_with (refine wpList_store_row rfl 42 _ _ rfl (g + 2) (plA p (.slice az ls.length cz)) rfl rfl 42 (plA ⟨0, 0, 0, 0, 0⟩ (.slice none 0 0)) HZz.out (by kernel_rfl) rfl (by simp [Value.oneCell']) ?_)
    have hgw := HGG.out
    have hg2 := HG2.out
    exact bodyPost_ret (results_P2 rfl _ _ (g + 2) p (.slice az ls.length cz) _ rfl rfl (HZz.out.row _)) rfl (⟨fun h => absurd h HNP.out, fun _ => ⟨_, rfl, Og.mono (ogRow' HOz.out hg2) (by omega), belowRow HBz.out _ (by omega) _⟩⟩)
  have HPS : Hid (PlP p ∧ StOk p.n ls) := HRR.out.1 rfl
  clear HRR
  have x0 := HP3.out.cell 0
  have x1 := HP3.out.cell 1
  have x2 := HP3.out.cell 2
  have x3 := HP3.out.cell 3
  have x4 := HP3.out.cell 4
  have x5 := HP3.out.cell 5
  simp at x0 x1 x2 x3 x4 x5
  go_wp2_with (refine ldPg (by rfl) _ rfl (g + 1) rfl k HK3.out ?_)
  refine (pkI_c k w3).mono ?_
  rintro e w4 ⟨rfl, b4⟩
  have HP4 : Hid (Blk w4 g (plA p (.slice a ls.length cap)) 42) := HP3.out.below b4 HP3.out.lt
  have HK4 : Hid (Blk w4 (g + 1) (pkA k) 40) := HK3.out.below b4 HK3.out.lt
  have HZ4 : Hid (Blk w4 (g + 2) (plA ⟨0, 0, 0, 0, 0⟩ (.slice none 0 0)) 42) := HZ3.out.below b4 HZ3.out.lt
  have HB4 : Hid (Below w.heap.size w w4) := belowCall HB3.out b4 HB3.out.size
  have HS4 : Hid (W2.heap.size ≤ w4.heap.size) := Nat.le_trans HS3.out b4.size
  clear b4 HP3 HK3 HZ3 HB3 HS3 x0 x1 x2 x3 x4 x5
  cases hkb : pkB k
  · have HNP : Hid (¬ PuP p k ls) := fun h => by have h2 := h.2.1; rw [hkb] at h2; cases h2
    clear hkb
    have x0 := HP4.out.cell 0
    have x1 := HP4.out.cell 1
    have x2 := HP4.out.cell 2
    have x3 := HP4.out.cell 3
    have x4 := HP4.out.cell 4
    have x5 := HP4.out.cell 5
    simp at x0 x1 x2 x3 x4 x5
    go_wp2_with (fail)
    refine (copyI_c p _ ls w4 (HR.out.below HB4.out) HN.out).mono ?_
    rintro e wz ⟨vz, rfl, oz, bz⟩
    obtain ⟨az, cz, rfl⟩ := oz.form
    have HZz : Hid (Blk wz (g + 2) (plA ⟨0, 0, 0, 0, 0⟩ (.slice none 0 0)) 42) := HZ4.out.below bz HZ4.out.lt
    have HBz : Hid (Below w.heap.size w wz) := belowCall HB4.out bz HB4.out.size
    have HOz : Hid (Og 18 pkC 40 W2.heap.size wz (.slice az ls.length cz) ls) := Og.mono oz HS4.out
    clear oz bz x0 x1 x2 x3 x4 x5
    go_wp2_with (refine wpList_store_row rfl 42 _ _ rfl (g + 2) (plA p (.slice az ls.length cz)) rfl rfl 42 (plA ⟨0, 0, 0, 0, 0⟩ (.slice none 0 0)) HZz.out (by kernel_rfl) rfl (by simp [Value.oneCell']) ?_)
    have hgw := HGG.out
    have hg2 := HG2.out
    exact bodyPost_ret (results_P2 rfl _ _ (g + 2) p (.slice az ls.length cz) _ rfl rfl (HZz.out.row _)) rfl (⟨fun h => absurd h HNP.out, fun _ => ⟨_, rfl, Og.mono (ogRow' HOz.out hg2) (by omega), belowRow HBz.out _ (by omega) _⟩⟩)
  by_cases hl1 : p.l = 1000000000
  · have HNP : Hid (¬ PuP p k ls) := fun h => h.2.2 hl1
    have hlb : (p.l == 1000000000) = true := by simp [hl1]
    clear hkb hl1
    have x0 := HP4.out.cell 0
    have x1 := HP4.out.cell 1
    have x2 := HP4.out.cell 2
    have x3 := HP4.out.cell 3
    have x4 := HP4.out.cell 4
    have x5 := HP4.out.cell 5
    simp at x0 x1 x2 x3 x4 x5
    go_wp2_with (fail)
    refine (copyI_c p _ ls w4 (HR.out.below HB4.out) HN.out).mono ?_
    rintro e wz ⟨vz, rfl, oz, bz⟩
    obtain ⟨az, cz, rfl⟩ := oz.form
    have HZz : Hid (Blk wz (g + 2) (plA ⟨0, 0, 0, 0, 0⟩ (.slice none 0 0)) 42) := HZ4.out.below bz HZ4.out.lt
    have HBz : Hid (Below w.heap.size w wz) := belowCall HB4.out bz HB4.out.size
    have HOz : Hid (Og 18 pkC 40 W2.heap.size wz (.slice az ls.length cz) ls) := Og.mono oz HS4.out
    clear oz bz x0 x1 x2 x3 x4 x5
    go_wp2_with (refine wpList_store_row rfl 42 _ _ rfl (g + 2) (plA p (.slice az ls.length cz)) rfl rfl 42 (plA ⟨0, 0, 0, 0, 0⟩ (.slice none 0 0)) HZz.out (by kernel_rfl) rfl (by simp [Value.oneCell']) ?_)
    have hgw := HGG.out
    have hg2 := HG2.out
    exact bodyPost_ret (results_P2 rfl _ _ (g + 2) p (.slice az ls.length cz) _ rfl rfl (HZz.out.row _)) rfl (⟨fun h => absurd h HNP.out, fun _ => ⟨_, rfl, Og.mono (ogRow' HOz.out hg2) (by omega), belowRow HBz.out _ (by omega) _⟩⟩)
  have HPU : Hid (PuP p k ls) := ⟨HPS.out, hkb, hl1⟩
  have hlb : (p.l == 1000000000) = false := by simpa using hl1
  clear hkb hl1
  have x0 := HP4.out.cell 0
  have x1 := HP4.out.cell 1
  have x2 := HP4.out.cell 2
  have x3 := HP4.out.cell 3
  have x4 := HP4.out.cell 4
  have x5 := HP4.out.cell 5
  simp at x0 x1 x2 x3 x4 x5
  go_wp2_with (fail)
  refine (storeOf_c p a ls.length cap w4).mono ?_
  rintro e w5 ⟨rfl, b5⟩
  obtain ⟨gs, hgs⟩ : ∃ X, w5.heap.size = X := ⟨_, rfl⟩
  obtain ⟨W6, hW6⟩ : ∃ W, w5.alloc (Obj.cells #[.slice a ls.length cap, .int .i64 p.n] 94) = W := ⟨_, rfl⟩
  have al : Below w5.heap.size w5 W6 := by rw [← hW6]; exact (Below.refl _ _).alloc (Nat.le_refl _) _
  have HP6 : Hid (Blk W6 g (plA p (.slice a ls.length cap)) 42) := (HP4.out.below b5 HP4.out.lt).below al (HP4.out.below b5 HP4.out.lt).lt
  have HK6 : Hid (Blk W6 (g + 1) (pkA k) 40) := (HK4.out.below b5 HK4.out.lt).below al (HK4.out.below b5 HK4.out.lt).lt
  have HZ6 : Hid (Blk W6 (g + 2) (plA ⟨0, 0, 0, 0, 0⟩ (.slice none 0 0)) 42) := (HZ4.out.below b5 HZ4.out.lt).below al (HZ4.out.below b5 HZ4.out.lt).lt
  have HT6 : Hid (Blk W6 gs #[.slice a ls.length cap, .int .i64 p.n] 94) := by rw [← hW6, ← hgs]; exact Blk.new _ _ _
  have HB6 : Hid (Below w.heap.size w W6) := belowCall (belowCall HB4.out b5 HB4.out.size) al (Nat.le_trans HB4.out.size b5.size)
  have HS6 : Hid (W2.heap.size ≤ W6.heap.size) := Nat.le_trans HS4.out (Nat.le_trans b5.size al.size)
  have HW6 : Hid (w5.alloc (Obj.cells #[.slice a ls.length cap, .int .i64 p.n] 94) = W6 ∧ w5.heap.size = gs) := ⟨hW6, hgs⟩
  clear b5 al hW6 hgs HP4 HK4 HZ4 HB4 HS4 x0 x1 x2 x3 x4 x5 hlb
  go_upto_region 4 with fail
  rw [HW6.out.1, HW6.out.2]
  clear HW6
  have t0 := HT6.out.cell 0
  simp at t0
  have y1 : W6.cell? ⟨g + 1, 1, none⟩ = some (.int .i64 k.s) := HK6.out.cell 1
  go_wp2_with (fail)
  refine (placeOf_c _ ls k.s W6 (HR.out.below HB6.out)).mono ?_
  rintro e w7 ⟨rfl, b7⟩
  have HP7 : Hid (Blk w7 g (plA p (.slice a ls.length cap)) 42) := HP6.out.below b7 HP6.out.lt
  have HK7 : Hid (Blk w7 (g + 1) (pkA k) 40) := HK6.out.below b7 HK6.out.lt
  have HZ7 : Hid (Blk w7 (g + 2) (plA ⟨0, 0, 0, 0, 0⟩ (.slice none 0 0)) 42) := HZ6.out.below b7 HZ6.out.lt
  have HT7 : Hid (Blk w7 gs #[.slice a ls.length cap, .int .i64 p.n] 94) := HT6.out.below b7 HT6.out.lt
  have HB7 : Hid (Below w.heap.size w w7) := belowCall HB6.out b7 HB6.out.size
  have HS7 : Hid (W2.heap.size ≤ w7.heap.size) := Nat.le_trans HS6.out b7.size
  clear b7 HP6 HK6 HZ6 HT6 HB6 HS6 t0 y1
  cases hth : thB ls k.s
  · obtain ⟨q, hq⟩ : ∃ q : Bool, decide (p.n ≤ k.s ∧ k.s ≤ p.n + 12 - 1) = q := ⟨_, rfl⟩
    have HQ : Hid (decide (p.n ≤ k.s ∧ k.s ≤ p.n + 12 - 1) = q) := hq
    have HIN : Hid (∀ W, Calls Tryd.prog 80 #[.agg #[.slice a ls.length cap, .int .i64 p.n], .int .i64 k.s] W fun e w' => e = .returned (.bool q) ∧ Below W.heap.size W w') := fun W => by rw [← hq]; exact reaches_c _ p.n k.s HPU.out.1.1.1 W
    have HTH : Hid (thB ls k.s = false) := hth
    clear hq hth
    have t0 := HT7.out.cell 0
    have t1 := HT7.out.cell 1
    simp at t0 t1
    have y1 : w7.cell? ⟨g + 1, 1, none⟩ = some (.int .i64 k.s) := HK7.out.cell 1
    go_wp2_with (fail)
    refine (HIN.out w7).mono ?_
    rintro e w8 ⟨rfl, b8⟩
    have HP8 : Hid (Blk w8 g (plA p (.slice a ls.length cap)) 42) := HP7.out.below b8 HP7.out.lt
    have HK8 : Hid (Blk w8 (g + 1) (pkA k) 40) := HK7.out.below b8 HK7.out.lt
    have HZ8 : Hid (Blk w8 (g + 2) (plA ⟨0, 0, 0, 0, 0⟩ (.slice none 0 0)) 42) := HZ7.out.below b8 HZ7.out.lt
    have HT8 : Hid (Blk w8 gs #[.slice a ls.length cap, .int .i64 p.n] 94) := HT7.out.below b8 HT7.out.lt
    have HB8 : Hid (Below w.heap.size w w8) := belowCall HB7.out b8 HB7.out.size
    have HS8 : Hid (W2.heap.size ≤ w8.heap.size) := Nat.le_trans HS7.out b8.size
    clear b8 HP7 HK7 HZ7 HT7 HB7 HS7 t0 t1 y1 HIN
    cases q
    · have HP8a := HP8
      have HZ8a := HZ8
      have HB8a := HB8
      have HS8a := HS8
      clear HP8 HZ8 HB8 HS8
      have HPF : Hid (puF p k ls = (⟨p.n, p.d, p.l + 1, p.g, p.x⟩, ls)) := by show _ = _; rw [puF, if_pos (.inr (of_decide_eq_false HQ.out))]
      have hl1 := HPU.out.1.1.2.2.1
      obtain ⟨W8, hW8⟩ : ∃ W, w8.setCell ⟨g, 2, none⟩ (.int .i64 (p.l + 1)) = W := ⟨_, rfl⟩
      have HP8 : Hid (Blk W8 g (plA ⟨p.n, p.d, p.l + 1, p.g, p.x⟩ (.slice a ls.length cap)) 42) := by rw [← hW8]; exact HP8a.out.set 2 (.int .i64 (p.l + 1))
      have HZ8 : Hid (Blk W8 (g + 2) (plA ⟨0, 0, 0, 0, 0⟩ (.slice none 0 0)) 42) := HZ8a.out.grown (by rw [← hW8]; exact dgrown_set _ _ _ _) (row := some g) (fun e => by have := Option.some.inj e; omega)
      have HB8 : Hid (Below w.heap.size w W8) := by rw [← hW8]; exact HB8a.out.setCell (by dsimp only; have := HGG.out; omega) _
      have HS8 : Hid (W2.heap.size ≤ W8.heap.size) := by show _ ≤ _; rw [← hW8]; simpa using HS8a.out
      have x2 := HP8a.out.cell 2
      have f2 := HP8a.out.frozen 2
      simp at x2
      have HW8 : Hid (w8.setCell ⟨g, 2, none⟩ (.int .i64 (p.l + 1)) = W8) := hW8
      clear hW8
      go_upto_region 7 with fail
      rw [HW8.out]
      clear HW8 x2 f2
      have x0 := HP8.out.cell 0
      have x1 := HP8.out.cell 1
      have x2 := HP8.out.cell 2
      have x3 := HP8.out.cell 3
      have x4 := HP8.out.cell 4
      have x5 := HP8.out.cell 5
      simp at x0 x1 x2 x3 x4 x5
      go_wp2_with (fail)
      refine (copyI_c ⟨p.n, p.d, p.l + 1, p.g, p.x⟩ _ ls W8 (HR.out.below HB8.out) HN.out).mono ?_
      rintro e wz ⟨vz, rfl, oz, bz⟩
      obtain ⟨az, cz, rfl⟩ := oz.form
      have HZz : Hid (Blk wz (g + 2) (plA ⟨0, 0, 0, 0, 0⟩ (.slice none 0 0)) 42) := HZ8.out.below bz HZ8.out.lt
      have HBz : Hid (Below w.heap.size w wz) := belowCall HB8.out bz HB8.out.size
      have HOz : Hid (Og 18 pkC 40 W2.heap.size wz (.slice az ls.length cz) ls) := Og.mono oz HS8.out
      clear oz bz x0 x1 x2 x3 x4 x5
      go_wp2_with (refine wpList_store_row rfl 42 _ _ rfl (g + 2) (plA ⟨p.n, p.d, p.l + 1, p.g, p.x⟩ (.slice az ls.length cz)) rfl rfl 42 (plA ⟨0, 0, 0, 0, 0⟩ (.slice none 0 0)) HZz.out (by kernel_rfl) rfl (by simp [Value.oneCell']) ?_)
      have hgw := HGG.out
      have hg2 := HG2.out
      exact bodyPost_ret (results_P2 rfl _ _ (g + 2) ⟨p.n, p.d, p.l + 1, p.g, p.x⟩ (.slice az ls.length cz) _ rfl rfl (HZz.out.row _)) rfl (⟨fun _ => by rw [HPF.out]; exact ⟨_, rfl, Og.mono (ogRow' HOz.out hg2) (by omega), belowRow HBz.out _ (by omega) _⟩, fun h => absurd HPU.out h⟩)
    · have HPF : Hid (puF p k ls = (p, ls.take (pcF ls k.s) ++ k :: ls.drop (pcF ls k.s))) := by show _ = _; rw [puF, if_neg (fun h => by rcases h with h | h; rw [HTH.out] at h; cases h; exact h (of_decide_eq_true HQ.out))]
      have t0 := HT8.out.cell 0
      simp at t0
      go_wp2_with (first | refine ldP rfl _ rfl (g + 1) rfl 40 k HK8.out ?_)
      refine (with_c _ ls (pcF ls k.s) k w8 (HR.out.below HB8.out) (pcF_le ls k.s) HN.out).mono ?_
      rintro e w9 ⟨v9, rfl, o9, b9⟩
      obtain ⟨N3, hN3⟩ : ∃ N, (ls.take (pcF ls k.s) ++ k :: ls.drop (pcF ls k.s)).length = N := ⟨_, rfl⟩
      obtain ⟨a3, c3, hv3⟩ := o9.form
      rw [hN3] at hv3
      subst hv3
      have HP9 : Hid (Blk w9 g (plA p (.slice a ls.length cap)) 42) := HP8.out.below b9 HP8.out.lt
      have HZ9 : Hid (Blk w9 (g + 2) (plA ⟨0, 0, 0, 0, 0⟩ (.slice none 0 0)) 42) := HZ8.out.below b9 HZ8.out.lt
      have HB9 : Hid (Below w.heap.size w w9) := belowCall HB8.out b9 HB8.out.size
      have HO9 : Hid (Og 18 pkC 40 W2.heap.size w9 (.slice a3 N3 c3) (ls.take (pcF ls k.s) ++ k :: ls.drop (pcF ls k.s))) := Og.mono o9 HS8.out
      clear o9 b9 HP8 HK8 HZ8 HT8 HB8 HS8 t0 hN3
      have x5 := HP9.out.cell 5
      have f5 := HP9.out.frozen 5
      simp at x5
      obtain ⟨wj, hwj⟩ : ∃ W, w9.setCell ⟨g, 5, none⟩ (.slice a3 N3 c3) = W := ⟨_, rfl⟩
      have HPj : Hid (Blk wj g (plA p (.slice a3 N3 c3)) 42) := by rw [← hwj]; exact HP9.out.set 5 (.slice a3 N3 c3)
      have hgz : w9.grownBy wj (some g) := by rw [← hwj]; exact dgrown_set _ _ _ _
      have HZj : Hid (Blk wj (g + 2) (plA ⟨0, 0, 0, 0, 0⟩ (.slice none 0 0)) 42) := HZ9.out.grown hgz (fun e => by have := Option.some.inj e; omega)
      have HOj : Hid (Og 18 pkC 40 W2.heap.size wj (.slice a3 N3 c3) (ls.take (pcF ls k.s) ++ k :: ls.drop (pcF ls k.s))) := World.ownsRow.kept HO9.out hgz (by cases hv : (Value.slice a3 N3 c3).ownBlock with | none => exact .inl rfl | some m => exact .inr (fun e => by have := (HO9.out.lt m hv).1; have := Option.some.inj e; have := HG2.out; omega))
      have HBj : Hid (Below w.heap.size w wj) := by rw [← hwj]; exact HB9.out.setCell (by dsimp only; have := HGG.out; omega) _
      have HWJ : Hid (w9.setCell ⟨g, 5, none⟩ (.slice a3 N3 c3) = wj) := hwj
      clear hgz hwj HP9 HZ9 HO9 HB9
      go_upto_region 9 with fail
      rw [HWJ.out]
      clear HWJ x5 f5
      have x0 := HPj.out.cell 0
      have x1 := HPj.out.cell 1
      have x2 := HPj.out.cell 2
      have x3 := HPj.out.cell 3
      have x4 := HPj.out.cell 4
      have x5 := HPj.out.cell 5
      simp at x0 x1 x2 x3 x4 x5
      go_wp2_with (refine wpList_store_row rfl 42 _ _ rfl (g + 2) (plA p (.slice a3 N3 c3)) rfl rfl 42 (plA ⟨0, 0, 0, 0, 0⟩ (.slice none 0 0)) HZj.out (by kernel_rfl) rfl (by simp [Value.oneCell']) ?_)
      have hgw := HGG.out
      have hg2 := HG2.out
      have hpf := HPF.out
      exact bodyPost_ret (results_P2 rfl _ _ (g + 2) p (.slice a3 N3 c3) _ rfl rfl (HZj.out.row _)) rfl ⟨fun _ => by rw [hpf]; exact ⟨_, rfl, Og.mono (ogRow' HOj.out hg2) (by omega), belowRow HBj.out _ (by omega) _⟩, fun h => absurd HPU.out h⟩
  · have HTH : Hid (thB ls k.s = true) := hth
    clear hth
    go_upto_region 6 with fail
    have HPF : Hid (puF p k ls = (⟨p.n, p.d, p.l + 1, p.g, p.x⟩, ls)) := by show _ = _; rw [puF, if_pos (.inl HTH.out)]
    have hl1 := HPU.out.1.1.2.2.1
    obtain ⟨W8, hW8⟩ : ∃ W, w7.setCell ⟨g, 2, none⟩ (.int .i64 (p.l + 1)) = W := ⟨_, rfl⟩
    have HP8 : Hid (Blk W8 g (plA ⟨p.n, p.d, p.l + 1, p.g, p.x⟩ (.slice a ls.length cap)) 42) := by rw [← hW8]; exact HP7.out.set 2 (.int .i64 (p.l + 1))
    have HZ8 : Hid (Blk W8 (g + 2) (plA ⟨0, 0, 0, 0, 0⟩ (.slice none 0 0)) 42) := HZ7.out.grown (by rw [← hW8]; exact dgrown_set _ _ _ _) (row := some g) (fun e => by have := Option.some.inj e; omega)
    have HB8 : Hid (Below w.heap.size w W8) := by rw [← hW8]; exact HB7.out.setCell (by dsimp only; have := HGG.out; omega) _
    have HS8 : Hid (W2.heap.size ≤ W8.heap.size) := by show _ ≤ _; rw [← hW8]; simpa using HS7.out
    have x2 := HP7.out.cell 2
    have f2 := HP7.out.frozen 2
    simp at x2
    have HW8 : Hid (w7.setCell ⟨g, 2, none⟩ (.int .i64 (p.l + 1)) = W8) := hW8
    clear hW8
    go_upto_region 7 with fail
    rw [HW8.out]
    clear HW8 x2 f2
    have x0 := HP8.out.cell 0
    have x1 := HP8.out.cell 1
    have x2 := HP8.out.cell 2
    have x3 := HP8.out.cell 3
    have x4 := HP8.out.cell 4
    have x5 := HP8.out.cell 5
    simp at x0 x1 x2 x3 x4 x5
    go_wp2_with (fail)
    refine (copyI_c ⟨p.n, p.d, p.l + 1, p.g, p.x⟩ _ ls W8 (HR.out.below HB8.out) HN.out).mono ?_
    rintro e wz ⟨vz, rfl, oz, bz⟩
    obtain ⟨az, cz, rfl⟩ := oz.form
    have HZz : Hid (Blk wz (g + 2) (plA ⟨0, 0, 0, 0, 0⟩ (.slice none 0 0)) 42) := HZ8.out.below bz HZ8.out.lt
    have HBz : Hid (Below w.heap.size w wz) := belowCall HB8.out bz HB8.out.size
    have HOz : Hid (Og 18 pkC 40 W2.heap.size wz (.slice az ls.length cz) ls) := Og.mono oz HS8.out
    clear oz bz x0 x1 x2 x3 x4 x5
    go_wp2_with (refine wpList_store_row rfl 42 _ _ rfl (g + 2) (plA ⟨p.n, p.d, p.l + 1, p.g, p.x⟩ (.slice az ls.length cz)) rfl rfl 42 (plA ⟨0, 0, 0, 0, 0⟩ (.slice none 0 0)) HZz.out (by kernel_rfl) rfl (by simp [Value.oneCell']) ?_)
    have hgw := HGG.out
    have hg2 := HG2.out
    exact bodyPost_ret (results_P2 rfl _ _ (g + 2) ⟨p.n, p.d, p.l + 1, p.g, p.x⟩ (.slice az ls.length cz) _ rfl rfl (HZz.out.row _)) rfl (⟨fun _ => by rw [HPF.out]; exact ⟨_, rfl, Og.mono (ogRow' HOz.out hg2) (by omega), belowRow HBz.out _ (by omega) _⟩, fun h => absurd HPU.out h⟩)

end Go.Proofs.YtkjfcebdjnclaaaDoor
