/- The shorter of two chains; no condition. -/
import Derived.Test.YtikhfeafbckjlaaDoorFChI
namespace Go.Proofs.YtikhfeafbckjlaaDoor
open Go.RowKit Go.ChangeShapes Go.WideShapes Go.ChangeAt
set_option linter.unusedVariables false
set_option linter.unusedSimpArgs false
set_option maxRecDepth 8000
/-- what tells the shorter of two chains -/
def ShR (p : Int) (ps : Tri) (inn out a b : Int) (w : World) (e : Ending) (w' : World) : Prop :=
  ∃ (K1 K2 : Nat) (mv : Value), (stt p ps a b true (ixV (outQ p out a) ps) K1 < 0 ∧ ∀ i, i < K1 → 0 ≤ stt p ps a b true (ixV (outQ p out a) ps) i) ∧ (stt p ps b a false (ixV (inQ p inn b) ps) K2 < 0 ∧ ∀ i, i < K2 → 0 ≤ stt p ps b a false (ixV (inQ p inn b) ps) i) ∧
    e = .returned (.tuple #[.int .i64 (if K2 < K1 then b else a), mv]) ∧ Op mf mg 74 w.heap.size w' mv (if K2 < K1 then mvL p ps b a false (ixV (inQ p inn b) ps) K2 else mvL p ps a b true (ixV (outQ p out a) ps) K1) ∧ Below w.heap.size w w'
set_option maxHeartbeats 6400000 in
theorem shorter_c (s p m : Int) (v : Value) (ps : Tri) (inn out a b : Int) (w : World) (hr : Rt w v ps) (hR : InR ps) (hp1 : 1 ≤ p) (hp4 : p ≤ 4) (hlen : ps.length ≤ 100000) (hN : NoP w) (hb0 : 0 ≤ b)
   (H1 : ChOk p ps a b true (ixV (outQ p out a) ps)) (H2 : ChOk p ps b a false (ixV (inQ p inn b) ps)) :
   Calls Tryd.prog 42 #[.agg (F4 s p m v), .int .i64 inn, .int .i64 out, .int .i64 a, .int .i64 b] w (ShR p ps inn out a b w) := by
  obtain ⟨a0, cap0, rfl, h1, h2, h3⟩ := id hr
  unfold maxLen at h2
  have HR : Hid (InR ps) := hR
  have HRt : Hid (Rt w (.slice a0 ps.length cap0) ps) := hr
  have hNl := hN.lt
  have HNP : Hid (∀ W, Below w.heap.size w W → NoP W) := fun W hb => hN.below hb hNl
  have HH1 : Hid (ChOk p ps a b true (ixV (outQ p out a) ps)) := H1
  have HH2 : Hid (ChOk p ps b a false (ixV (inQ p inn b) ps)) := H2
  obtain ⟨W0, hW0⟩ : ∃ W0, w.alloc (Obj.cells (F4 s p m (.slice a0 ps.length cap0)) 26) = W0 := ⟨_, rfl⟩
  have BW0 : Hid (Below w.heap.size w W0) := hW0 ▸ (Below.refl _ _).alloc (Nat.le_refl _) _
  have KW0 : Hid (Blk W0 w.heap.size (F4 s p m (.slice a0 ps.length cap0)) 26) := hW0 ▸ Blk.new _ _ _
  have HW0 : Hid (w.alloc (Obj.cells (F4 s p m (.slice a0 ps.length cap0)) 26) = W0) := hW0
  clear hr hR H1 H2 h3 hN hW0
  go_enter Tryd.func42, Tryd.ntmps42
  go_wp2
  rw [HW0.out]
  clear HW0
  obtain ⟨S1, hS1⟩ : ∃ S : World → Prop, ∀ W, S W ↔ Below W0.heap.size W0 W := ⟨_, fun _ => Iff.rfl⟩
  have s01 : ∀ W : At S1, W.wd.cell? ⟨w.heap.size, 0, none⟩ = some (.int .i64 s) := fun W => (((hS1 _).1 W.ok).cell KW0.out.lt).trans (KW0.out.cell 0)
  have s11 : ∀ W : At S1, W.wd.cell? ⟨w.heap.size, 1, none⟩ = some (.int .i64 p) := fun W => (((hS1 _).1 W.ok).cell KW0.out.lt).trans (KW0.out.cell 1)
  have s21 : ∀ W : At S1, W.wd.cell? ⟨w.heap.size, 2, none⟩ = some (.int .i64 m) := fun W => (((hS1 _).1 W.ok).cell KW0.out.lt).trans (KW0.out.cell 2)
  have s31 : ∀ W : At S1, W.wd.cell? ⟨w.heap.size, 3, none⟩ = some (.slice a0 ps.length cap0) := fun W => (((hS1 _).1 W.ok).cell KW0.out.lt).trans (KW0.out.cell 3)
  have HSI1 : Hid (∀ W, Below W0.heap.size W0 W → S1 W) := fun W h => (hS1 W).2 h
  have HSD1 : Hid (S1 W0.drew) := HSI1.out _ (Below.refl _ _).drew
  have ne1 : Nonempty (At S1) := ⟨⟨_, HSD1.out⟩⟩
  clear hS1
  refine region_mixA [true, true, true, true, false, true, true, false, false] 8 2 S1 (by kernel_rfl) rfl (by kernel_rfl) (fun _ _ _ _ _ h => h) HSD1.out ?_
  simp only [selT, selF]
  repeat (go_big_quiet_step (fail))
  refine wpQuiet_nil ?_
  clear s01 s11 s21 s31 ne1 HSD1
  have bd1 : Below w.heap.size w W0.drew := belowCall BW0.out (Below.refl _ _).drew BW0.out.size
  refine tail_step ?_
  go_wp2_with (fail)
  refine (pathInto_v s p m out a _ ps _ (HRt.out.below bd1) HR.out hp1 hp4 (HNP.out _ bd1)).mono ?_
  rintro e q1 ⟨rfl, b1⟩
  have bq1 : Below W0.heap.size W0 q1 := belowCall (Below.refl _ _).drew b1 (Nat.le_refl _)
  have bw1 : Below w.heap.size w q1 := belowCall BW0.out bq1 BW0.out.size
  obtain ⟨⟨x1, y1, z1⟩, hx1⟩ : ∃ q, fstP (outQ p out a) ps = q := ⟨_, rfl⟩
  rw [hx1]
  have HQ1 : Hid (S1 q1) := HSI1.out _ bq1
  have HX1 : Hid (pV ps (ixV (outQ p out a) ps) = (x1, y1, z1)) := by rw [← hx1, fstP_pV]; rfl
  have HBW1 : Hid (Below W0.heap.size W0 q1 ∧ Below w.heap.size w q1) := ⟨bq1, bw1⟩
  clear b1 bd1 bq1 bw1 hx1
  go_wp2
  refine ⟨HQ1.out, tail_step ?_⟩
  go_wp2_with (fail)
  refine (chainOf_c s p m _ ps (ixV (outQ p out a) ps) x1 y1 z1 a b a b true _ (HRt.out.below HBW1.out.2) HR.out hp1 hp4 hlen (HNP.out _ HBW1.out.2) HH1.out HX1.out hb0 (by simp)).mono ?_
  rintro e w5 ⟨v1, K1, rfl, k1a, k1b, o1, c1⟩
  have cq1 : Below W0.heap.size W0 w5 := belowCall HBW1.out.1 c1 HBW1.out.1.size
  have Bw5 : Hid (Below w.heap.size w w5) := belowCall BW0.out cq1 BW0.out.size
  have Kw5 : Hid (Blk w5 w.heap.size (F4 s p m (.slice a0 ps.length cap0)) 26) := KW0.out.below cq1 KW0.out.lt
  have HSN1 : Hid (S1 w5) := HSI1.out _ cq1
  have HK1 : Hid (stt p ps a b true (ixV (outQ p out a) ps) K1 < 0 ∧ ∀ i, i < K1 → 0 ≤ stt p ps a b true (ixV (outQ p out a) ps) i) := ⟨k1a, k1b⟩
  have hsz1 : w.heap.size ≤ q1.heap.size := HBW1.out.2.size
  have HO1 : Hid (Op mf mg 74 w.heap.size w5 v1 (mvL p ps a b true (ixV (outQ p out a) ps) K1)) := Op.mono o1 hsz1
  obtain ⟨av1, cv1, hv1, l11, l21⟩ := own_form2 o1
  rw [mvL_len] at hv1 l11
  subst hv1
  unfold maxLen at l21
  clear k1a k1b o1 c1 cq1 HQ1 HX1 HBW1 HSI1 hsz1
  go_wp2
  refine ⟨HSN1.out, tail_end ?_⟩
  clear HSN1
  go_wp2
  obtain ⟨S2, hS2⟩ : ∃ S : World → Prop, ∀ W, S W ↔ Below w5.heap.size w5 W := ⟨_, fun _ => Iff.rfl⟩
  have s02 : ∀ W : At S2, W.wd.cell? ⟨w.heap.size, 0, none⟩ = some (.int .i64 s) := fun W => (((hS2 _).1 W.ok).cell Kw5.out.lt).trans (Kw5.out.cell 0)
  have s12 : ∀ W : At S2, W.wd.cell? ⟨w.heap.size, 1, none⟩ = some (.int .i64 p) := fun W => (((hS2 _).1 W.ok).cell Kw5.out.lt).trans (Kw5.out.cell 1)
  have s22 : ∀ W : At S2, W.wd.cell? ⟨w.heap.size, 2, none⟩ = some (.int .i64 m) := fun W => (((hS2 _).1 W.ok).cell Kw5.out.lt).trans (Kw5.out.cell 2)
  have s32 : ∀ W : At S2, W.wd.cell? ⟨w.heap.size, 3, none⟩ = some (.slice a0 ps.length cap0) := fun W => (((hS2 _).1 W.ok).cell Kw5.out.lt).trans (Kw5.out.cell 3)
  have HSI2 : Hid (∀ W, Below w5.heap.size w5 W → S2 W) := fun W h => (hS2 W).2 h
  have HSD2 : Hid (S2 w5.drew) := HSI2.out _ (Below.refl _ _).drew
  have ne2 : Nonempty (At S2) := ⟨⟨_, HSD2.out⟩⟩
  clear hS2
  refine region_mixA [true, true, true, true, false, true, true, false, false] 8 2 S2 (by kernel_rfl) rfl (by kernel_rfl) (fun _ _ _ _ _ h => h) HSD2.out ?_
  simp only [selT, selF]
  repeat (go_big_quiet_step (fail))
  refine wpQuiet_nil ?_
  clear s02 s12 s22 s32 ne2 HSD2
  have bd2 : Below w.heap.size w w5.drew := belowCall Bw5.out (Below.refl _ _).drew Bw5.out.size
  refine tail_step ?_
  go_wp2_with (fail)
  refine (pathOutOf_v s p m inn b _ ps _ (HRt.out.below bd2) HR.out hp1 hp4 (HNP.out _ bd2)).mono ?_
  rintro e q2 ⟨rfl, b2⟩
  have bq2 : Below w5.heap.size w5 q2 := belowCall (Below.refl _ _).drew b2 (Nat.le_refl _)
  have bw2 : Below w.heap.size w q2 := belowCall Bw5.out bq2 Bw5.out.size
  obtain ⟨⟨x2, y2, z2⟩, hx2⟩ : ∃ q, fstP (inQ p inn b) ps = q := ⟨_, rfl⟩
  rw [hx2]
  have HQ2 : Hid (S2 q2) := HSI2.out _ bq2
  have HX2 : Hid (pV ps (ixV (inQ p inn b) ps) = (x2, y2, z2)) := by rw [← hx2, fstP_pV]; rfl
  have HBW2 : Hid (Below w5.heap.size w5 q2 ∧ Below w.heap.size w q2) := ⟨bq2, bw2⟩
  clear b2 bd2 bq2 bw2 hx2
  go_wp2
  refine ⟨HQ2.out, tail_step ?_⟩
  go_wp2_with (fail)
  refine (chainOf_c s p m _ ps (ixV (inQ p inn b) ps) x2 y2 z2 a b b a false _ (HRt.out.below HBW2.out.2) HR.out hp1 hp4 hlen (HNP.out _ HBW2.out.2) HH2.out HX2.out hb0 (by simp)).mono ?_
  rintro e w6 ⟨v2, K2, rfl, k2a, k2b, o2, c2⟩
  have cq2 : Below w5.heap.size w5 w6 := belowCall HBW2.out.1 c2 HBW2.out.1.size
  have Bw6 : Hid (Below w.heap.size w w6) := belowCall Bw5.out cq2 Bw5.out.size
  have Kw6 : Hid (Blk w6 w.heap.size (F4 s p m (.slice a0 ps.length cap0)) 26) := Kw5.out.below cq2 Kw5.out.lt
  have HSN2 : Hid (S2 w6) := HSI2.out _ cq2
  have HK2 : Hid (stt p ps b a false (ixV (inQ p inn b) ps) K2 < 0 ∧ ∀ i, i < K2 → 0 ≤ stt p ps b a false (ixV (inQ p inn b) ps) i) := ⟨k2a, k2b⟩
  have hsz2 : w.heap.size ≤ q2.heap.size := HBW2.out.2.size
  have HO2 : Hid (Op mf mg 74 w.heap.size w6 v2 (mvL p ps b a false (ixV (inQ p inn b) ps) K2)) := Op.mono o2 hsz2
  obtain ⟨av2, cv2, hv2, l12, l22⟩ := own_form2 o2
  rw [mvL_len] at hv2 l12
  subst hv2
  unfold maxLen at l22
  have HXC : Hid (Below w5.heap.size w5 w6) := cq2
  clear k2a k2b o2 c2 cq2 HQ2 HX2 HBW2 HSI2 hsz2
  go_wp2
  refine ⟨HSN2.out, tail_end ?_⟩
  clear HSN2
  have o1 : Op mf mg 74 w.heap.size w6 (.slice av1 K1 cv1) (mvL p ps a b true (ixV (outQ p out a) ps) K1) := HO1.out.below HXC.out
  by_cases hK : K2 < K1
  · have hki : (K2 : Int) < (K1 : Int) := by omega
    have hf : ShR p ps inn out a b w (.returned (.tuple #[.int .i64 b, .slice av2 K2 cv2])) w6 := ⟨K1, K2, _, HK1.out, HK2.out, by rw [if_pos hK], by rw [if_pos hK]; exact HO2.out, Bw6.out⟩
    have HF : Hid (ShR p ps inn out a b w (.returned (.tuple #[.int .i64 b, .slice av2 K2 cv2])) w6) := hf
    clear hf o1
    go_wp2
    go_ret2
    exact HF.out
  · have hki : ¬ (K2 : Int) < (K1 : Int) := by omega
    have hf : ShR p ps inn out a b w (.returned (.tuple #[.int .i64 a, .slice av1 K1 cv1])) w6 := ⟨K1, K2, _, HK1.out, HK2.out, by rw [if_neg hK], by rw [if_neg hK]; exact o1, Bw6.out⟩
    have HF : Hid (ShR p ps inn out a b w (.returned (.tuple #[.int .i64 a, .slice av1 K1 cv1])) w6) := hf
    clear hf o1
    go_wp2
    go_ret2
    exact HF.out
end Go.Proofs.YtikhfeafbckjlaaDoor
