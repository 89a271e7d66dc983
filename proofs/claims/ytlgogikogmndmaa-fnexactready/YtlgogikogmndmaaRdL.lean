/- The law of Ready; no condition. -/
import Derived.Test.YtlgogikogmndmaaPlh
import Derived.Test.YtlgogikogmndmaaRdy
import Derived.Test.YtlgogikogmndmaaOver
namespace Go.Proofs.Ytlgogikogmndmaa
open Go.RowKit Go.ChangeShapes Go.WideShapes Go.ChangeAt
set_option linter.unusedVariables false
set_option linter.unusedSimpArgs false
set_option maxRecDepth 8000
set_option maxHeartbeats 3200000 in
theorem readyLaw (p : Pl) (v : Value) (ls : List Pk) (w : World) (h : Rg 18 pkC w v ls) :
    Calls Try.prog 5 #[.agg (plA p v)] w fun e w' => e = .returned (.bool true) ∧ Below w.heap.size w w' := by
  have HH : Hid (Rg 18 pkC w v ls) := h
  obtain ⟨a, cap, rfl, -⟩ := h
  obtain ⟨W0, hW0⟩ : ∃ W0, w.alloc (Obj.cells (plA p (.slice a ls.length cap)) 24) = W0 := ⟨_, rfl⟩
  have HB0 : Hid (Below w.heap.size w W0) := by rw [← hW0]; exact (Below.refl _ _).alloc (Nat.le_refl _) _
  have HK0 : Hid (Blk W0 w.heap.size (plA p (.slice a ls.length cap)) 24) := by rw [← hW0]; exact Blk.new _ _ _
  have x0 := HK0.out.cell 0
  have x1 := HK0.out.cell 1
  have x2 := HK0.out.cell 2
  have x3 := HK0.out.cell 3
  have x4 := HK0.out.cell 4
  have x5 := HK0.out.cell 5
  simp at x0 x1 x2 x3 x4 x5
  go_enter Try.func5, Try.ntmps5
  go_wp2_with (fail)
  clear hW0
  have hsz := szPl_c p _ ls 1048576 W0 (HH.out.below HB0.out) (by omega) (by omega)
  by_cases hbig : (1048576 : Int) < (ls.length : Int)
  · rw [if_pos hbig] at hsz
    refine hsz.mono ?_
    rintro e w1 ⟨rfl, b1⟩
    have HB1 : Hid (Below w.heap.size w w1) := belowCall HB0.out b1 HB0.out.size
    clear b1 hsz x0 x1 x2 x3 x4 x5 hbig
    go_wp2
    go_ret
    exact ⟨rfl, HB1.out⟩
  rw [if_neg hbig] at hsz
  refine hsz.mono ?_
  rintro e w1 ⟨rfl, b1⟩
  have HB1 : Hid (Below w.heap.size w w1) := belowCall HB0.out b1 HB0.out.size
  have HK1 : Hid (Blk w1 w.heap.size (plA p (.slice a ls.length cap)) 24) := HK0.out.below b1 HK0.out.lt
  have HL : Hid (ls.length ≤ 1048576) := by show _ ≤ _; omega
  have g : ¬ (1048576 : Int) - (ls.length : Int) < 0 := by omega
  clear b1 hsz HK0 HB0 x0 x1 x2 x3 x4 x5 hbig
  have x0 := HK1.out.cell 0
  have x1 := HK1.out.cell 1
  have x2 := HK1.out.cell 2
  have x3 := HK1.out.cell 3
  have x4 := HK1.out.cell 4
  have x5 := HK1.out.cell 5
  simp at x0 x1 x2 x3 x4 x5
  go_wp2_with (fail)
  refine (toPl_c p _ ls w1 (HH.out.below HB1.out) HL.out).mono ?_
  rintro e w2 ⟨v2, rfl, o2, b2⟩
  have HB2 : Hid (Below w.heap.size w w2) := belowCall HB1.out b2 HB1.out.size
  have HK2 : Hid (Blk w2 w.heap.size (plA p (.slice a ls.length cap)) 24) := HK1.out.below b2 HK1.out.lt
  have HO2 : Hid (Rg 18 pkC w2 v2 ls) := o2.rd pkC_len
  clear o2 b2 HK1 HB1 x0 x1 x2 x3 x4 x5 g
  go_wp2_with (fail)
  refine (rdM_c p _ ls w2 HO2.out).mono ?_
  rintro e w3 ⟨r, rfl, hr, b3⟩
  have HR : Hid (r = true ↔ RdP p ls) := hr
  have HB3 : Hid (Below w.heap.size w w3) := belowCall HB2.out b3 HB2.out.size
  have HK3 : Hid (Blk w3 w.heap.size (plA p (.slice a ls.length cap)) 24) := HK2.out.below b3 HK2.out.lt
  clear hr b3 HO2 HK2 HB2
  have x0 := HK3.out.cell 0
  have x1 := HK3.out.cell 1
  have x2 := HK3.out.cell 2
  have x3 := HK3.out.cell 3
  have x4 := HK3.out.cell 4
  have x5 := HK3.out.cell 5
  simp at x0 x1 x2 x3 x4 x5
  go_wp2_with (fail)
  refine (toPl_c p _ ls w3 (HH.out.below HB3.out) HL.out).mono ?_
  rintro e w4 ⟨v4, rfl, o4, b4⟩
  obtain ⟨a4, q4, rfl⟩ := o4.form
  have ba : Below w4.heap.size w4 (w4.alloc (Obj.cells (plA p (.slice a4 ls.length q4)) 29)) := (Below.refl _ _).alloc (Nat.le_refl _) _
  have b5 := belowCall HB3.out b4 HB3.out.size
  have HB5 : Hid (Below w.heap.size w (w4.alloc (Obj.cells (plA p (.slice a4 ls.length q4)) 29))) := belowCall b5 ba b5.size
  have k4 := HK3.out.below b4 HK3.out.lt
  have HK5 : Hid (Blk (w4.alloc (Obj.cells (plA p (.slice a4 ls.length q4)) 29)) w.heap.size (plA p (.slice a ls.length cap)) 24) := k4.below ba k4.lt
  have HX5 : Hid (Blk (w4.alloc (Obj.cells (plA p (.slice a4 ls.length q4)) 29)) w4.heap.size (plA p (.slice a4 ls.length q4)) 29) := Blk.new _ _ _
  have HO5 : Hid (Rg 18 pkC (w4.alloc (Obj.cells (plA p (.slice a4 ls.length q4)) 29)) (.slice a4 ls.length q4) ls) := (o4.rd pkC_len).below ba
  obtain ⟨gx, hgx⟩ : ∃ k, w4.heap.size = k := ⟨_, rfl⟩
  obtain ⟨w5, hw5⟩ : ∃ W, w4.alloc (Obj.cells (plA p (.slice a4 ls.length q4)) 29) = W := ⟨_, rfl⟩
  rw [hw5] at HB5 HK5 HX5 HO5
  rw [hgx] at HX5
  have HGX : Hid (w4.heap.size = gx) := hgx
  have HW5 : Hid (w4.alloc (Obj.cells (plA p (.slice a4 ls.length q4)) 29) = w5) := hw5
  clear o4 b4 ba b5 k4 HK3 HB3 x0 x1 x2 x3 x4 x5
  have s0 := HX5.out.cell 0
  have s1 := HX5.out.cell 1
  have s2 := HX5.out.cell 2
  have s3 := HX5.out.cell 3
  have s4 := HX5.out.cell 4
  have s5 := HX5.out.cell 5
  simp at s0 s1 s2 s3 s4 s5
  go_wp2_with (fail)
  clear hw5 hgx
  refine (rdI_c p _ ls w5 HO5.out).mono ?_
  rintro e w6 ⟨r', rfl, hr', b6⟩
  have hrr : r' = r := by rw [Bool.eq_iff_iff, hr', HR.out]
  subst hrr
  have HB6 : Hid (Below w.heap.size w w6) := belowCall HB5.out b6 HB5.out.size
  have HK6 : Hid (Blk w6 w.heap.size (plA p (.slice a ls.length cap)) 24) := HK5.out.below b6 HK5.out.lt
  have HX6 : Hid (Blk w6 gx (plA p (.slice a4 ls.length q4)) 29) := HX5.out.below b6 HX5.out.lt
  have HO6 : Hid (Rg 18 pkC w6 (.slice a4 ls.length q4) ls) := HO5.out.below b6
  clear b6 hr' HR HK5 HX5 HO5 HB5 s0 s1 s2 s3 s4 s5 HW5
  obtain ⟨S, hS⟩ : ∃ S : World → Prop, ∀ W, S W ↔ Below w6.heap.size w6 W := ⟨_, fun _ => Iff.rfl⟩
  have zc0 : ∀ W : At S, W.wd.cell? ⟨w.heap.size, 0, none⟩ = some ((plA p (.slice a ls.length cap))[0]) := fun W => by rw [(HK6.out.below ((hS _).1 W.ok) HK6.out.lt).cell 0]; rfl
  have zx0 : ∀ W : At S, W.wd.cell? ⟨gx, 0, none⟩ = some ((plA p (.slice a4 ls.length q4))[0]) := fun W => by rw [(HX6.out.below ((hS _).1 W.ok) HX6.out.lt).cell 0]; rfl
  have zc1 : ∀ W : At S, W.wd.cell? ⟨w.heap.size, 1, none⟩ = some ((plA p (.slice a ls.length cap))[1]) := fun W => by rw [(HK6.out.below ((hS _).1 W.ok) HK6.out.lt).cell 1]; rfl
  have zx1 : ∀ W : At S, W.wd.cell? ⟨gx, 1, none⟩ = some ((plA p (.slice a4 ls.length q4))[1]) := fun W => by rw [(HX6.out.below ((hS _).1 W.ok) HX6.out.lt).cell 1]; rfl
  have zc2 : ∀ W : At S, W.wd.cell? ⟨w.heap.size, 2, none⟩ = some ((plA p (.slice a ls.length cap))[2]) := fun W => by rw [(HK6.out.below ((hS _).1 W.ok) HK6.out.lt).cell 2]; rfl
  have zx2 : ∀ W : At S, W.wd.cell? ⟨gx, 2, none⟩ = some ((plA p (.slice a4 ls.length q4))[2]) := fun W => by rw [(HX6.out.below ((hS _).1 W.ok) HX6.out.lt).cell 2]; rfl
  have zc3 : ∀ W : At S, W.wd.cell? ⟨w.heap.size, 3, none⟩ = some ((plA p (.slice a ls.length cap))[3]) := fun W => by rw [(HK6.out.below ((hS _).1 W.ok) HK6.out.lt).cell 3]; rfl
  have zx3 : ∀ W : At S, W.wd.cell? ⟨gx, 3, none⟩ = some ((plA p (.slice a4 ls.length q4))[3]) := fun W => by rw [(HX6.out.below ((hS _).1 W.ok) HX6.out.lt).cell 3]; rfl
  have zc4 : ∀ W : At S, W.wd.cell? ⟨w.heap.size, 4, none⟩ = some ((plA p (.slice a ls.length cap))[4]) := fun W => by rw [(HK6.out.below ((hS _).1 W.ok) HK6.out.lt).cell 4]; rfl
  have zx4 : ∀ W : At S, W.wd.cell? ⟨gx, 4, none⟩ = some ((plA p (.slice a4 ls.length q4))[4]) := fun W => by rw [(HX6.out.below ((hS _).1 W.ok) HX6.out.lt).cell 4]; rfl
  have zc5 : ∀ W : At S, W.wd.cell? ⟨w.heap.size, 5, none⟩ = some ((plA p (.slice a ls.length cap))[5]) := fun W => by rw [(HK6.out.below ((hS _).1 W.ok) HK6.out.lt).cell 5]; rfl
  have zx5 : ∀ W : At S, W.wd.cell? ⟨gx, 5, none⟩ = some ((plA p (.slice a4 ls.length q4))[5]) := fun W => by rw [(HX6.out.below ((hS _).1 W.ok) HX6.out.lt).cell 5]; rfl
  simp at zc0 zx0 zc1 zx1 zc2 zx2 zc3 zx3 zc4 zx4 zc5 zx5
  have HS : Hid (∀ W, S W ↔ Below w6.heap.size w6 W) := hS
  have ne : Nonempty (At S) := ⟨⟨w6, (hS _).2 (Below.refl _ _)⟩⟩
  clear hS
  have hbb : (r' != r') = false := by simp
  go_wp2
  refine region_mixA [true, true, false, false, false] 5 3 S (by kernel_rfl) rfl (by kernel_rfl) (fun _ _ _ _ _ h => h) ((HS.out _).2 (Below.refl _ _).drew) ?_
  simp only [selT, selF]
  repeat (go_big_quiet_step (fail))
  refine wpQuiet_nil ?_
  refine tail_step ?_
  go_wp2_with (fail)
  refine (toPl_c p _ ls w6.drew (HH.out.below HB6.out.drew) HL.out).mono ?_
  rintro e w7 ⟨v7, rfl, o7, b7⟩
  have B7 : Below w6.heap.size w6 w7 := (Below.refl _ _).drew.trans b7
  have HB7 : Hid (Below w6.heap.size w6 w7) := B7
  have HO7 : Hid (Rg 18 pkC w7 (.slice a4 ls.length q4) ls ∧ Rg 18 pkC w7 v7 ls) := ⟨HO6.out.below B7, o7.rd pkC_len⟩
  clear o7 b7 B7
  go_wp2
  refine ⟨(HS.out _).2 HB7.out, tail_step ?_⟩
  go_wp2_with (fail)
  refine (eqPl_t p _ _ ls w7 HO7.out.1 HO7.out.2).mono ?_
  rintro e w8 ⟨rfl, b8⟩
  have HB8 : Hid (Below w6.heap.size w6 w8) := belowCall HB7.out b8 HB7.out.size
  clear b8 HO7
  go_wp2
  refine ⟨(HS.out _).2 HB8.out, tail_step ?_⟩
  go_wp2
  refine ⟨(HS.out _).2 HB8.out, tail_end ?_⟩
  have HBE : Hid (Below w.heap.size w w8) := belowCall HB6.out HB8.out HB6.out.size
  clear zc0 zx0 zc1 zx1 zc2 zx2 zc3 zx3 zc4 zx4 zc5 zx5 HB7 HB8 HS HK6 HX6 HO6
  go_wp2
  go_ret
  exact ⟨rfl, HBE.out⟩

end Go.Proofs.Ytlgogikogmndmaa
