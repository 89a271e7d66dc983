/- The powers of rows and columns, of the program; the two tables are as they were laid. -/
import Derived.Test.YtgdejlofkjdkoaaDoorDgi
namespace Go.Proofs.YtgdejlofkjdkoaaDoor
open Go.RowKit Go.ChangeShapes Go.WideShapes Go.ChangeAt
set_option linter.unusedVariables false
set_option linter.unusedSimpArgs false
set_option maxRecDepth 8000

theorem alikeI_c (p q : Int) (hp : 0 ≤ p ∧ p ≤ 35184372088832) (hq : 0 ≤ q ∧ q ≤ 35184372088832) (w : World) : Calls Tryd.prog 32 #[.int .i64 p, .int .i64 q] w fun e w' => e = .returned (.bool (decide (p ≤ 8 * q) && decide (q ≤ 8 * p))) ∧ w' = w := by
  by_cases c : p ≤ 8 * q
  · have cd : decide (p ≤ 8 * q) = true := by simp; exact c
    go_enter Tryd.func32, Tryd.ntmps32
    go_wp2
    go_ret
    exact ⟨by rw [cd]; rfl, rfl⟩
  · have cd : decide (p ≤ 8 * q) = false := by simp; omega
    go_enter Tryd.func32, Tryd.ntmps32
    go_wp2
    go_ret
    exact ⟨rfl, rfl⟩
set_option maxHeartbeats 3200000 in
theorem mostI_c (s : Int) (hs : 0 ≤ s ∧ s ≤ 70368744177664) (v : Value) (zs : List Int) (hl : zs.length = 128) (hlv : lvP zs) (w : World) (h : Rd .i64 w v zs) : Calls Tryd.prog 33 #[.int .i64 s, v] w fun e w' => e = .returned (.bool (decide (128 * enF zs 128 ≤ 4 * s))) ∧ Below w.heap.size w w' := by
  obtain ⟨a, cap, rfl, z1, z2, z3⟩ := h
  unfold maxLen at z2
  have HLV : Hid (lvP zs) := hlv
  have HL : Hid (zs.length = 128) := hl
  clear hlv hl
  go_enter Tryd.func33, Tryd.ntmps33
  go_wp2
  go_loopw [5, 10] (fun u i wr => ∃ j : Nat, j ≤ zs.length ∧ i = .int .i64 j ∧ u = .int .i64 (enF zs j) ∧ Hid (Below w.heap.size w wr)) (fun _ i _ => zs.length - (intOf i).toNat)
  case atStart => exact ⟨0, Nat.zero_le _, rfl, rfl, Below.refl _ _⟩
  case round =>
    obtain ⟨j, hj, rfl, rfl, hbr⟩ := hrel
    have hb1 := enF_bd HLV.out j hj
    have hl8 := HL.out
    by_cases hlt : j < zs.length
    case neg =>
      obtain rfl : j = zs.length := by omega
      have HE : Hid (enF zs zs.length = enF zs 128) := by show _ = _; rw [hl8]
      clear z3
      obtain ⟨x, hx⟩ : ∃ x, enF zs zs.length = x := ⟨_, rfl⟩
      rw [hx] at hb1 HE ⊢
      clear hx
      go_wp2
      go_ret
      exact ⟨by rw [← HE.out]; rfl, hbr.out⟩
    case pos =>
    rcases z3 with z3 | ⟨b, off, rfl, z4⟩
    · subst z3; simp at hlt
    have HS : Hid (enF zs (j + 1) = enF zs j + zs.getD j 0 * zs.getD j 0) := rfl
    have hc : wr.cell? ⟨b, off + j, none⟩ = some (.int .i64 (zs.getD j 0)) := by
      have := z4 j hlt
      rw [hbr.out.cell (block_lt_of_cell this)]; exact this
    have hsq := sq_bd (HLV.out j hlt)
    have hi1 : (0 : Int) ≤ (j : Int) := by omega
    have hi2 : (j : Int) < (zs.length : Int) := by omega
    obtain ⟨x, hx⟩ : ∃ x, enF zs j = x := ⟨_, rfl⟩
    obtain ⟨y, hy⟩ : ∃ y, zs.getD j 0 = y := ⟨_, rfl⟩
    rw [hx] at hb1 HS ⊢
    rw [hy] at hc HS hsq
    obtain ⟨yy, hyy⟩ : ∃ z, y * y = z := ⟨_, rfl⟩
    rw [hyy] at HS hsq
    clear hx hy z4
    go_wp2
    go_roundw
    case rel => exact ⟨j + 1, by omega, by go_num, by rw [HS.out], hbr.out⟩
    case measure => simp [intOf]; omega
theorem sizeA4 : (Tryd.prog.info? 43).map (·.size) = some 4 := by kernel_rfl
theorem results_44 {fn : Func} {p q : Tmp} (h : fn.results = #[.cell p 43, .cell q 43]) (tmps : Array Value) (w : World) (g g' : Nat) (a b : Nat → Int)
    (hp : tmps.getD p undef = .pointer (some ⟨g, 0, none⟩)) (hq : tmps.getD q undef = .pointer (some ⟨g', 0, none⟩)) (hg : Blk w g (A4 a) 43) (hg' : Blk w g' (A4 b) 43) :
    (results fn tmps).run Tryd.prog w = .ok (.tuple #[.agg (A4 a), .agg (A4 b)]) w := by
  have hp' : tmps[p]?.getD undef = .pointer (some ⟨g, 0, none⟩) := by simpa using hp
  have hq' : tmps[q]?.getD undef = .pointer (some ⟨g', 0, none⟩) := by simpa using hq
  have hr := run_loadVar_row (P := Tryd.prog) w g 43 43 (A4 a) (0, 0) _ hg Tryd.underlying43 rfl sizeA4
  have hr' := run_loadVar_row (P := Tryd.prog) w g' 43 43 (A4 b) (0, 0) _ hg' Tryd.underlying43 rfl sizeA4
  simp [results, h, hp', hq', asAddr, hr, hr']
/-- the first j of four, noughts behind -/
def q4 (p : Nat → Int) (j : Nat) : Nat → Int := fun i => if i < j then p i else 0
theorem q4_set (p : Nat → Int) (j : Nat) (h : j < 4) : (A4 (q4 p j)).setIfInBounds j (.int .i64 (p j)) = A4 (q4 p (j + 1)) := by
  obtain rfl | rfl | rfl | rfl : j = 0 ∨ j = 1 ∨ j = 2 ∨ j = 3 := by omega
  all_goals simp [A4, q4]
theorem q4_4 (p : Nat → Int) : A4 (q4 p 4) = A4 p := by simp [A4, q4]
/-- the boxes of rows and columns -/
structure D2 (w : World) (zs : List Int) (j k : Nat) (W : World) : Prop where
  r : Blk W w.heap.size (A4 (q4 (rwP zs) j)) 43
  c : Blk W (w.heap.size + 1) (A4 (q4 (clP zs) k)) 43
  b : Below w.heap.size w W
theorem D2.call {w : World} {zs : List Int} {j k : Nat} {W W' : World} (h : D2 w zs j k W) (hb : Below W.heap.size W W') : D2 w zs j k W' := ⟨h.r.below hb h.r.lt, h.c.below hb h.c.lt, belowCall h.b hb h.b.size⟩
theorem D2.setR {w : World} {zs : List Int} {j k : Nat} {W : World} (h : D2 w zs j k W) (hj : j < 4) : D2 w zs (j + 1) k (W.setCell ⟨w.heap.size, j, none⟩ (.int .i64 (rwP zs j))) :=
  ⟨by have := h.r.set j (.int .i64 (rwP zs j)); rwa [q4_set _ _ hj] at this, h.c.other _ _ (by dsimp only; omega), h.b.setCell (by dsimp only; omega) _⟩
theorem D2.setC {w : World} {zs : List Int} {j k : Nat} {W : World} (h : D2 w zs j k W) (hk : k < 4) : D2 w zs j (k + 1) (W.setCell ⟨w.heap.size + 1, k, none⟩ (.int .i64 (clP zs k))) :=
  ⟨h.r.other _ _ (by dsimp only; omega), by have := h.c.set k (.int .i64 (clP zs k)); rwa [q4_set _ _ hk] at this, h.b.setCell (by dsimp only; omega) _⟩
set_option maxHeartbeats 6400000 in
theorem powersI_c (v : Value) (zs : List Int) (hl : zs.length ≤ 128) (hlv : lvP zs) (w : World) (h : Rd .i64 w v zs) (hG : RcG w) : Calls Tryd.prog 29 #[v] w fun e w' => e = .returned (.tuple #[.agg (A4 (rwP zs)), .agg (A4 (clP zs))]) ∧ Below w.heap.size w w' := by
  have HR : Hid (Rd .i64 w v zs) := h
  have HLV : Hid (lvP zs) := hlv
  have HG : Hid (RcG w) := hG
  obtain ⟨W0, hW0⟩ : ∃ W, (w.alloc (Obj.cells #[.int .i64 0, .int .i64 0, .int .i64 0, .int .i64 0] 43)).alloc (Obj.cells #[.int .i64 0, .int .i64 0, .int .i64 0, .int .i64 0] 43) = W := ⟨_, rfl⟩
  have HD0 : Hid (D2 w zs 0 0 W0) := by
    rw [← hW0]
    exact ⟨(Blk.new _ _ _).alloc _, Blk.newAt _ _ _ _ (by simp), ((Below.refl _ _).alloc (Nat.le_refl _) _).alloc (by simp) _⟩
  clear h hlv hG
  go_enter Tryd.func29, Tryd.ntmps29
  go_wp2_with (fail)
  refine (quarterI_c W0).mono ?_
  rintro e w1 ⟨g, rfl, hq, hg, hb⟩
  have HQ1 : Hid (Qt w1 g) := hq
  have HD1 : Hid (D2 w zs 0 0 w1) := HD0.out.call hb
  have HGS : Hid (w.heap.size + 2 ≤ g) := Nat.le_trans HD0.out.c.lt hg
  clear hq hb HD0 hg hW0
  go_wp2
  go_loopw [7] (fun i wr => ∃ j : Nat, j ≤ 4 ∧ i = .int .i64 j ∧ Hid (D2 w zs j j wr) ∧ Hid (Qt wr g)) (fun i _ => 4 - (intOf i).toNat)
  case atStart => exact ⟨0, Nat.zero_le _, rfl, HD1.out, HQ1.out⟩
  case round =>
    obtain ⟨j, hj, rfl, hD, hQ⟩ := hrel
    clear HD1 HQ1
    by_cases hlt : j < 4
    case neg =>
      obtain rfl : j = 4 := by omega
      have KR := hD.out.r
      have KC := hD.out.c
      rw [q4_4] at KR KC
      have HKR : Hid (Blk wr w.heap.size (A4 (rwP zs)) 43) := KR
      have HKC : Hid (Blk wr (w.heap.size + 1) (A4 (clP zs)) 43) := KC
      have HBR : Hid (Below w.heap.size w wr) := hD.out.b
      clear KR KC hD hQ
      obtain ⟨S, hS⟩ : ∃ S : World → Prop, ∀ W, S W ↔ (Blk W w.heap.size (A4 (rwP zs)) 43 ∧ Blk W (w.heap.size + 1) (A4 (clP zs)) 43) := ⟨_, fun _ => Iff.rfl⟩
      have HS : Hid (∀ W, S W ↔ (Blk W w.heap.size (A4 (rwP zs)) 43 ∧ Blk W (w.heap.size + 1) (A4 (clP zs)) 43)) := hS
      have y0 : ∀ W : At S, W.wd.cell? ⟨w.heap.size, 0, none⟩ = some (.int .i64 (rwP zs 0)) := fun W => ((hS _).1 W.ok).1.cell 0
      have y1 : ∀ W : At S, W.wd.cell? ⟨w.heap.size, 1, none⟩ = some (.int .i64 (rwP zs 1)) := fun W => ((hS _).1 W.ok).1.cell 1
      have y2 : ∀ W : At S, W.wd.cell? ⟨w.heap.size, 2, none⟩ = some (.int .i64 (rwP zs 2)) := fun W => ((hS _).1 W.ok).1.cell 2
      have y3 : ∀ W : At S, W.wd.cell? ⟨w.heap.size, 3, none⟩ = some (.int .i64 (rwP zs 3)) := fun W => ((hS _).1 W.ok).1.cell 3
      have z0 : ∀ W : At S, W.wd.cell? ⟨w.heap.size + 1, 0, none⟩ = some (.int .i64 (clP zs 0)) := fun W => ((hS _).1 W.ok).2.cell 0
      have z1 : ∀ W : At S, W.wd.cell? ⟨w.heap.size + 1, 1, none⟩ = some (.int .i64 (clP zs 1)) := fun W => ((hS _).1 W.ok).2.cell 1
      have z2 : ∀ W : At S, W.wd.cell? ⟨w.heap.size + 1, 2, none⟩ = some (.int .i64 (clP zs 2)) := fun W => ((hS _).1 W.ok).2.cell 2
      have z3 : ∀ W : At S, W.wd.cell? ⟨w.heap.size + 1, 3, none⟩ = some (.int .i64 (clP zs 3)) := fun W => ((hS _).1 W.ok).2.cell 3
      have HSD : Hid (S wr.drew) := (hS _).2 ⟨HKR.out.drew, HKC.out.drew⟩
      have ne : Nonempty (At S) := ⟨⟨_, HSD.out⟩⟩
      obtain ⟨W5, hW5⟩ : ∃ W, wr.drew.setRow w.heap.size (A4 (rwP zs)) = W := ⟨_, rfl⟩
      have HK5 : Hid (Blk W5 w.heap.size (A4 (rwP zs)) 43 ∧ Blk W5 (w.heap.size + 1) (A4 (clP zs)) 43) := by rw [← hW5]; exact ⟨HKR.out.drew.row _, HKC.out.drew.rowOther _ _ (by omega)⟩
      have HB5 : Hid (Below w.heap.size w W5) := by rw [← hW5]; exact belowRow HBR.out.drew _ (Nat.le_refl _) _
      have HW5 : Hid (wr.drew.setRow w.heap.size (A4 (rwP zs)) = W5) := hW5
      have HK6 : Hid (Blk (W5.setRow (w.heap.size + 1) (A4 (clP zs))) w.heap.size (A4 (rwP zs)) 43 ∧ Blk (W5.setRow (w.heap.size + 1) (A4 (clP zs))) (w.heap.size + 1) (A4 (clP zs)) 43) := ⟨HK5.out.1.rowOther _ _ (by omega), HK5.out.2.row _⟩
      have HB6 : Hid (Below w.heap.size w (W5.setRow (w.heap.size + 1) (A4 (clP zs)))) := belowRow HB5.out _ (by omega) _
      clear hS hW5
      go_wp2
      refine region_mixT [true, true, false, false] 4 2 S (by kernel_rfl) rfl (by kernel_rfl) (fun _ _ _ _ _ h => h) HSD.out ?_
      simp only [selT, selF]
      try simp only [Act.put]
      repeat (go_big_quiet_step (fail))
      refine wpQuiet_nil ?_
      refine tail_step ?_
      clear y0 y1 y2 y3 z0 z1 z2 z3 ne
      go_wp2_with (first | (rw [HW5.out]) | refine wpList_store_row rfl 43 _ _ rfl w.heap.size _ rfl rfl 43 (A4 (rwP zs)) HKR.out.drew sizeA4 rfl (by simp [Value.oneCell']) ?_)
      change S (wr.drew.setRow w.heap.size (A4 (rwP zs))) ∧ wpTail Tryd.prog _ _ S 1 _ _ (wr.drew.setRow w.heap.size (A4 (rwP zs)))
      rw [HW5.out]
      refine ⟨(HS.out _).2 HK5.out, tail_step ?_⟩
      go_wp2_with (refine wpList_store_row rfl 43 _ _ rfl (w.heap.size + 1) _ rfl rfl 43 (A4 (clP zs)) HK5.out.2 sizeA4 rfl (by simp [Value.oneCell']) ?_)
      refine ⟨(HS.out _).2 HK6.out, tail_end ?_⟩
      go_wp2
      exact bodyPost_ret (results_44 rfl _ _ w.heap.size (w.heap.size + 1) (rwP zs) (clP zs) rfl rfl HK6.out.1 HK6.out.2) rfl ⟨rfl, HB6.out⟩
    case pos =>
    have hi1 : (0 : Int) ≤ (j : Int) := by omega
    have hi2 : (j : Int) < 4 := by omega
    have G1 := HG.out.below hD.out.b
    have g0 := G1.1 j hlt
    obtain ⟨r, hr⟩ : ∃ r : Int, (12 + 2 * (j : Int)) = r := ⟨_, rfl⟩
    have HPR : Hid (pw zs r = rwP zs j) := by show _ = _; rw [← hr]; rfl
    have hr2 : 0 ≤ r ∧ r ≤ 255 := by omega
    rw [hr] at g0
    clear hr G1
    have bp := pw_bd HLV.out hl r
    go_wp2_with (fail)
    refine (powI_c g v zs r hr2.1 hr2.2 hl HLV.out wr hQ.out (HR.out.below hD.out.b)).mono ?_
    rintro e w2 ⟨rfl, b2⟩
    have D2' := hD.out.call b2
    have HD3 : Hid (D2 w zs (j + 1) j (w2.setCell ⟨w.heap.size, j, none⟩ (.int .i64 (rwP zs j)))) := D2'.setR hlt
    have u0 := D2'.r.cell j
    rw [A4_at _ _ hlt] at u0
    have f0 := D2'.r.frozen j
    have HQ3 : Hid (Qt (w2.setCell ⟨w.heap.size, j, none⟩ (.int .i64 (rwP zs j))) g) := fun q hq => by
      have h6 := (hQ.out.below b2) q hq
      have hgl := HGS.out
      rw [World.cell?_of_block (w := w2) (heap_setCell_other w2 ⟨w.heap.size, j, none⟩ g _ (by dsimp only; omega))]
      exact h6
    rw [HPR.out] at bp ⊢
    obtain ⟨W3, hW3⟩ : ∃ W, w2.setCell ⟨w.heap.size, j, none⟩ (.int .i64 (rwP zs j)) = W := ⟨_, rfl⟩
    rw [hW3] at HD3 HQ3
    have G3 := HG.out.below HD3.out.b
    have g1 := G3.2 j hlt
    obtain ⟨c, hc⟩ : ∃ r : Int, (22 + 4 * (j : Int)) = r := ⟨_, rfl⟩
    have HPC : Hid (pw zs c = clP zs j) := by show _ = _; rw [← hc]; rfl
    have hc2 : 0 ≤ c ∧ c ≤ 255 := by omega
    rw [hc] at g1
    clear hc G3 D2' b2 hD hQ g0
    go_wp2_with (fail)
    refine (powI_c g v zs c hc2.1 hc2.2 hl HLV.out W3 HQ3.out (HR.out.below HD3.out.b)).mono ?_
    rintro e w4 ⟨rfl, b4⟩
    have D4' := HD3.out.call b4
    have HD5 : Hid (D2 w zs (j + 1) (j + 1) (w4.setCell ⟨w.heap.size + 1, j, none⟩ (.int .i64 (clP zs j)))) := D4'.setC hlt
    have u1 := D4'.c.cell j
    rw [A4_at _ _ hlt] at u1
    have f1 := D4'.c.frozen j
    have HQ5 : Hid (Qt (w4.setCell ⟨w.heap.size + 1, j, none⟩ (.int .i64 (clP zs j))) g) := fun q hq => by
      have h6 := (HQ3.out.below b4) q hq
      have hgl := HGS.out
      rw [World.cell?_of_block (w := w4) (heap_setCell_other w4 ⟨w.heap.size + 1, j, none⟩ g _ (by dsimp only; omega))]
      exact h6
    rw [HPC.out]
    clear b4 D4' g1 hW3 u0 f0 HD3 HQ3
    go_wp2
    go_roundw
    case rel => exact ⟨j + 1, by omega, by go_num, HD5.out, HQ5.out⟩
    case measure => simp [intOf]; omega

end Go.Proofs.YtgdejlofkjdkoaaDoor
