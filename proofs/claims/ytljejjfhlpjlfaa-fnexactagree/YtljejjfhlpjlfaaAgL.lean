/- FnExactAgree's body answers true at every duo; no condition. -/
import Derived.Test.YtljejjfhlpjlfaaAg
namespace Go.Proofs.Ytljejjfhlpjlfaa
open Go.RowKit Go.ChangeShapes Go.WideShapes Go.ChangeAt
set_option linter.unusedVariables false
set_option linter.unusedSimpArgs false
set_option maxRecDepth 8000
set_option maxHeartbeats 1600000 in
theorem agreeLaw (s c s' c' : Int) (v : Value) (cs : Tri) (w : World) (h : Rt w v cs) :
   Calls Try.prog 9 #[.agg (D5 s c s' c' v)] w fun e w' => e = .returned (.bool true) ∧ Below w.heap.size w w' := by
  have bel0 : Below w.heap.size w (w.alloc (Obj.cells (D5 s c s' c' (v)) 44)) := (Below.refl _ _).alloc (Nat.le_refl _) _
  have H0 := h.below bel0
  have K0 : Blk (w.alloc (Obj.cells (D5 s c s' c' (v)) 44)) w.heap.size (D5 s c s' c' (v)) 44 := Blk.new _ _ _
  have HZ : Hid (Calls Try.prog 21 #[.agg (D5 s c s' c' v), .int .i64 1048576] (w.alloc (Obj.cells (D5 s c s' c' (v)) 44)) fun e w' => e = .returned (.int .i64 (lft 1048576 cs.length)) ∧ Below (w.alloc (Obj.cells (D5 s c s' c' (v)) 44)).heap.size (w.alloc (Obj.cells (D5 s c s' c' (v)) 44)) w') := szDuo_c s c s' c' v cs 1048576 _ H0 (by decide) (by decide)
  have HB0 : Hid (Below w.heap.size w (w.alloc (Obj.cells (D5 s c s' c' (v)) 44))) := bel0
  have HH : Hid (Rt w v cs) := h
  have HK0 : Hid (Blk (w.alloc (Obj.cells (D5 s c s' c' (v)) 44)) w.heap.size (D5 s c s' c' (v)) 44) := K0
  obtain ⟨a, cap, rfl, -⟩ := h
  obtain ⟨ln, hln⟩ : ∃ ln, cs.length = ln := ⟨_, rfl⟩
  rw [hln] at HB0 HH HK0 HZ ⊢
  obtain ⟨z, hz⟩ : ∃ z, lft 1048576 ln = z := ⟨_, rfl⟩
  rw [hz] at HZ
  have HZ2 : Hid (0 ≤ z → cs.length ≤ 1048576) := fun h0 => (by rw [hln]; rw [← hz] at h0; unfold lft at h0; split at h0 <;> omega)
  clear bel0 H0 K0 hz hln
  go_enter Try.func9, Try.ntmps9
  go_wp2_with (fail)
  refine HZ.out.mono ?_
  rintro e w2 ⟨rfl, b2⟩
  have HB2 : Hid (Below w.heap.size w w2) := belowCall HB0.out b2 HB0.out.size
  have K2 := HK0.out.below b2 (by simp)
  have HK2 : Hid (Blk w2 w.heap.size (D5 s c s' c' (.slice a ln cap)) 44) := K2
  have s2 : w.heap.size < w2.heap.size := K2.lt
  have c0 := K2.cell 0
  have c2 := K2.cell 2
  have c3 := K2.cell 3
  have c4 := K2.cell 4
  have c1 := K2.cell 1
  simp at c0 c1 c2 c3 c4
  clear b2 K2 HZ HK0 HB0
  by_cases hneg : z < 0
  · go_wp2
    go_ret
    exact ⟨rfl, HB2.out⟩
  · have hl := HZ2.out (by omega)
    have HL : Hid (cs.length ≤ 1048576) := hl
    clear hl
    go_wp2_with (fail)
    refine (toDuo_c s c s' c' _ cs w2 (HH.out.below HB2.out) HL.out).mono ?_
    rintro e w3 ⟨v3, rfl, o3, b3⟩
    have HB3 : Hid (Below w.heap.size w w3) := belowCall HB2.out b3 HB2.out.size
    have HK3 : Hid (Blk w3 w.heap.size (D5 s c s' c' (.slice a ln cap)) 44) := HK2.out.below b3 s2
    have HO3 : Hid (Rt w3 v3 cs) := o3.rd
    clear o3 b3 c0 c1 c2 c3 c4
    go_wp2_with (fail)
    refine (agM_c s c s' c' _ cs w3 HO3.out).mono ?_
    rintro e w4 ⟨r, rfl, hr, b4⟩
    have HR : Hid (r = true ↔ AgP s c s' c' cs) := hr
    have HB4 : Hid (Below w.heap.size w w4) := belowCall HB3.out b4 HB3.out.size
    have HK4 : Hid (Blk w4 w.heap.size (D5 s c s' c' (.slice a ln cap)) 44) := HK3.out.below b4 (HK3.out.lt)
    have c0 := HK4.out.cell 0
    have c2 := HK4.out.cell 2
    have c3 := HK4.out.cell 3
    have c4 := HK4.out.cell 4
    have c1 := HK4.out.cell 1
    simp at c0 c1 c2 c3 c4
    clear hr b4 HO3 HK3 HB3 HK2 HB2
    go_wp2_with (fail)
    refine (toDuo_c s c s' c' _ cs w4 (HH.out.below HB4.out) HL.out).mono ?_
    rintro e w5 ⟨v5, rfl, o5, b5⟩
    have HB5 : Hid (Below w.heap.size w w5) := belowCall HB4.out b5 HB4.out.size
    have HK5 : Hid (Blk w5 w.heap.size (D5 s c s' c' (.slice a ln cap)) 44) := HK4.out.below b5 (HK4.out.lt)
    have HO5 : Hid (Ot 66 w4.heap.size w5 v5 cs) := o5
    obtain ⟨a5, cap5, hv5, -⟩ : ∃ a5 cap5, v5 = .slice a5 cs.length cap5 ∧ True := by
      obtain ⟨a', cap', rfl, -⟩ := o5.rd
      exact ⟨a', cap', rfl, trivial⟩
    subst hv5
    clear o5 b5 c0 c1 c2 c3 c4 HK4 HB4
    go_wp2_with (fail)
    have bel6 : Below w5.heap.size w5 (w5.alloc (Obj.cells (D5 s c s' c' (.slice a5 cs.length cap5)) 31)) := (Below.refl _ _).alloc (Nat.le_refl _) _
    refine (agI_c s c s' c' _ cs _ (HO5.out.rd.below bel6)).mono ?_
    rintro e w6 ⟨r', rfl, hr', b6⟩
    have hrr : r' = r := by rw [Bool.eq_iff_iff, hr', HR.out]
    subst hrr
    have HB6 : Hid (Below w.heap.size w w6) := belowCall (belowCall HB5.out bel6 HB5.out.size) b6 (belowCall HB5.out bel6 HB5.out.size).size
    have hk5 := HK5.out.lt
    have K6 : Blk w6 w.heap.size (D5 s c s' c' (.slice a ln cap)) 44 := (HK5.out.alloc _).below b6 (by simp; omega)
    have X6 : Blk w6 w5.heap.size (D5 s c s' c' (.slice a5 cs.length cap5)) 31 := (Blk.new _ _ _).below b6 (by simp)
    have HO6 : Hid (Rt w6 (.slice a5 cs.length cap5) cs) := (HO5.out.rd.below bel6).below b6
    have c0 := K6.cell 0
    have c1 := K6.cell 1
    have c2 := K6.cell 2
    have c3 := K6.cell 3
    have c4 := K6.cell 4
    have x0 := X6.cell 0
    have x1 := X6.cell 1
    have x2 := X6.cell 2
    have x3 := X6.cell 3
    have x4 := X6.cell 4
    simp at c0 c1 c2 c3 c4 x0 x1 x2 x3 x4
    have hx6 := X6.lt
    have hk6 := K6.lt
    obtain ⟨S, hS⟩ : ∃ S : World → Prop, ∀ W, S W ↔ Below w6.heap.size w6 W := ⟨_, fun _ => Iff.rfl⟩
    have zc0 : ∀ W : At S, W.wd.cell? ⟨w.heap.size, 0, none⟩ = some (.int .i64 s) := fun W => (((hS _).1 W.ok).cell hk6).trans c0
    have zc1 : ∀ W : At S, W.wd.cell? ⟨w.heap.size, 1, none⟩ = some (.int .i64 c) := fun W => (((hS _).1 W.ok).cell hk6).trans c1
    have zc2 : ∀ W : At S, W.wd.cell? ⟨w.heap.size, 2, none⟩ = some (.int .i64 s') := fun W => (((hS _).1 W.ok).cell hk6).trans c2
    have zc3 : ∀ W : At S, W.wd.cell? ⟨w.heap.size, 3, none⟩ = some (.int .i64 c') := fun W => (((hS _).1 W.ok).cell hk6).trans c3
    have zc4 : ∀ W : At S, W.wd.cell? ⟨w.heap.size, 4, none⟩ = some (.slice a ln cap) := fun W => (((hS _).1 W.ok).cell hk6).trans c4
    have zx0 : ∀ W : At S, W.wd.cell? ⟨w5.heap.size, 0, none⟩ = some (.int .i64 s) := fun W => (((hS _).1 W.ok).cell hx6).trans x0
    have zx1 : ∀ W : At S, W.wd.cell? ⟨w5.heap.size, 1, none⟩ = some (.int .i64 c) := fun W => (((hS _).1 W.ok).cell hx6).trans x1
    have zx2 : ∀ W : At S, W.wd.cell? ⟨w5.heap.size, 2, none⟩ = some (.int .i64 s') := fun W => (((hS _).1 W.ok).cell hx6).trans x2
    have zx3 : ∀ W : At S, W.wd.cell? ⟨w5.heap.size, 3, none⟩ = some (.int .i64 c') := fun W => (((hS _).1 W.ok).cell hx6).trans x3
    have zx4 : ∀ W : At S, W.wd.cell? ⟨w5.heap.size, 4, none⟩ = some (.slice a5 cs.length cap5) := fun W => (((hS _).1 W.ok).cell hx6).trans x4
    have HS : Hid (∀ W, S W ↔ Below w6.heap.size w6 W) := hS
    have ne : Nonempty (At S) := ⟨⟨w6, (hS _).2 (Below.refl _ _)⟩⟩
    clear hS b6 bel6 hr' K6 X6 HK5 HB5 HO5 HR
    have hbb : (r' != r') = false := by simp
    go_wp2
    refine region_mixA [true, true, false, false, false] 5 3 S (by kernel_rfl) rfl (by kernel_rfl) (fun _ _ _ _ _ h => h) ((HS.out _).2 (Below.refl _ _).drew) ?_
    simp only [selT, selF]
    repeat (go_big_quiet_step (fail))
    refine wpQuiet_nil ?_
    refine tail_step ?_
    go_wp2_with (fail)
    refine (toDuo_c s c s' c' _ cs w6.drew (HH.out.below HB6.out.drew) HL.out).mono ?_
    rintro e w7 ⟨v7, rfl, o7, b7⟩
    have B7 : Below w6.heap.size w6 w7 := (Below.refl _ _).drew.trans b7
    have HB7 : Hid (Below w6.heap.size w6 w7) := B7
    have HO7 : Hid (Rt w7 v7 cs ∧ Rt w7 (.slice a5 cs.length cap5) cs) := ⟨o7.rd, HO6.out.below B7⟩
    clear o7 b7 B7
    go_wp2
    refine ⟨(HS.out _).2 HB7.out, tail_step ?_⟩
    go_wp2_with (fail)
    refine (eqDuo_c s c s' c' s c s' c' _ _ cs cs w7 HO7.out.2 HO7.out.1).mono ?_
    rintro e w8 ⟨rfl, b8⟩
    have hde : ((decide ((s, c) = (s, c)) && decide ((s', c') = (s', c'))) && decide (cs = cs)) = true := by simp
    rw [hde]
    have HB8 : Hid (Below w6.heap.size w6 w8) := belowCall HB7.out b8 HB7.out.size
    clear b8 hde
    go_wp2
    refine ⟨(HS.out _).2 HB8.out, tail_step ?_⟩
    go_wp2
    refine ⟨(HS.out _).2 HB8.out, tail_end ?_⟩
    have HB9 : Hid (Below w.heap.size w w8) := belowCall HB6.out HB8.out HB6.out.size
    go_wp2
    go_ret
    exact ⟨rfl, HB9.out⟩

end Go.Proofs.Ytljejjfhlpjlfaa
