/- A fault told; no condition beside the variable of the library. -/
import Derived.Test.YtmfmlbiplagmiaaDoorEap
import Derived.Test.YtmfmlbiplagmiaaDoorBoi
namespace Go.Proofs.YtmfmlbiplagmiaaDoor
open Go.RowKit Go.ChangeShapes Go.WideShapes Go.ChangeAt
set_option linter.unusedVariables false
set_option linter.unusedSimpArgs false
set_option maxRecDepth 8000

/-- the library's variable holds the handle of the type error -/
def HgV (w : World) : Prop := w.cell? ⟨0, 0, none⟩ = some (.iface 127 (.agg #[.pointer (some ⟨1, 71, none⟩)]))
theorem HgV.below {w w' : World} (h : HgV w) (hb : Below w.heap.size w w') : HgV w' := (hb.cell (p := ⟨0, 0, none⟩) (block_lt_of_cell h)).trans h
theorem HgV.bel {B : Nat} {w w' : World} (h : HgV w) (hb : Below B w w') (hB : 0 < B) : HgV w' := (hb.cell (p := ⟨0, 0, none⟩) hB).trans h
theorem HgV.pos {w : World} (h : HgV w) : 0 < w.heap.size := block_lt_of_cell h
abbrev F2 (k a : Int) : Array Value := #[.int .i64 k, .int .i64 a]
theorem sizeFl : (Tryd.prog.info? 65).map (·.size) = some 2 := by kernel_rfl
set_option maxHeartbeats 3200000 in
theorem told_c (k a : Int) (w : World) (hg : HgV w) : Calls Tryd.prog 40 #[nfV k a] w fun e w' => e = .returned (.agg (F2 k a)) ∧ Below w.heap.size w w' := by
  obtain ⟨P, hP⟩ : ∃ P, w.heap.size = P := ⟨_, rfl⟩
  obtain ⟨W1, hW1⟩ : ∃ W, ((w.alloc (Obj.cells (F2 0 0) 65)).alloc (Obj.cells (F2 7 0) 65)).alloc (Obj.cells #[.int .i64 0] 99) = W := ⟨_, rfl⟩
  have HB1 : Hid (Below w.heap.size w W1) := by rw [← hW1]; exact (((Below.refl _ _).alloc (Nat.le_refl _) _).alloc (by simp) _).alloc (by simp <;> omega) _
  have HK1 : Hid (Blk W1 P (F2 0 0) 65 ∧ Blk W1 (P + 1) (F2 7 0) 65 ∧ Blk W1 (P + 2) #[.int .i64 0] 99) := by
    rw [← hW1, ← hP]
    exact ⟨((Blk.new _ _ _).alloc _).alloc _, (Blk.newAt _ (w.heap.size + 1) _ 65 (by simp)).alloc _, Blk.newAt _ (w.heap.size + 2) _ 99 (by simp)⟩
  have HG1 : Hid (HgV W1) := hg.below HB1.out
  have HP : Hid (w.heap.size = P ∧ 0 < P) := ⟨hP, by rw [← hP]; exact hg.pos⟩
  have HW1 : Hid (_ = W1) := hW1
  clear hP hW1 hg
  go_enter Tryd.func40, Tryd.ntmps40
  go_wp2_with (fail)
  rw [HW1.out, HP.out.1]
  refine (asKind_c a k ⟨P + 1 + 1, 0, none⟩ (.int .i64 0) W1 HG1.out (HK1.out.2.2.cell 0) (HK1.out.2.2.frozen 0)).mono ?_
  rintro e w2 ⟨rfl, v2, b2, rfl⟩
  obtain ⟨W3, hW3⟩ : ∃ W, v2.setCell ⟨P + 1 + 1, 0, none⟩ (.int .i64 k) = W := ⟨_, rfl⟩
  have HB3 : Hid (Below w.heap.size w W3) := by rw [← hW3]; exact (belowCall HB1.out b2 HB1.out.size).setCell (by have := HP.out; dsimp only; omega) _
  have HK3 : Hid (Blk W3 P (F2 0 0) 65 ∧ Blk W3 (P + 1) (F2 7 0) 65 ∧ Blk W3 (P + 2) #[.int .i64 k] 99) := by
    rw [← hW3]
    refine ⟨(HK1.out.1.below b2 HK1.out.1.lt).other _ _ (by dsimp only; omega), (HK1.out.2.1.below b2 HK1.out.2.1.lt).other _ _ (by dsimp only; omega), ?_⟩
    have := (HK1.out.2.2.below b2 HK1.out.2.2.lt).set 0 (.int .i64 k)
    simpa using this
  have HW3 : Hid (_ = W3) := hW3
  obtain ⟨W4, hW4⟩ : ∃ W, W3.setCell ⟨P + 1, 0, none⟩ (.int .i64 k) = W := ⟨_, rfl⟩
  obtain ⟨W5, hW5⟩ : ∃ W, W4.alloc (Obj.cells #[.int .i64 0, .nilIface] 103) = W := ⟨_, rfl⟩
  obtain ⟨Q, hQ⟩ : ∃ Q, W4.heap.size = Q := ⟨_, rfl⟩
  have hz4 : W4.heap.size = W3.heap.size := by rw [← hW4]; simp
  have HQ : Hid (P + 2 < Q ∧ W3.heap.size = Q) := ⟨by have := HK3.out.2.2.lt; omega, by omega⟩
  have k40 := HK3.out.1.other ⟨P + 1, 0, none⟩ (.int .i64 k) (by dsimp only; omega)
  have k41 := HK3.out.2.1.set 0 (.int .i64 k)
  rw [hW4] at k40 k41
  have ba : Below W4.heap.size W4 W5 := by rw [← hW5]; exact (Below.refl _ _).alloc (Nat.le_refl _) _
  have HK5 : Hid (Blk W5 P (F2 0 0) 65 ∧ Blk W5 (P + 1) (F2 k 0) 65 ∧ Blk W5 Q #[.int .i64 0, .nilIface] 103) := by
    refine ⟨k40.below ba k40.lt, ?_, ?_⟩
    · have := k41.below ba k41.lt
      simpa using this
    · rw [← hW5, ← hQ]; exact Blk.new _ _ _
  have HB5 : Hid (Below w.heap.size w W5) := by
    have h4 : Below w.heap.size w W4 := by rw [← hW4]; exact HB3.out.setCell (by have := HP.out; dsimp only; omega) _
    exact belowCall h4 ba h4.size
  have HG5 : Hid (HgV W5) := (HG1.out.bel (B := P) (by
    have h1 : Below P W1 W3 := by rw [← hW3]; exact (b2.mono (by have := HK1.out.2.2.lt; omega)).setCell (by dsimp only; omega) _
    have h2 : Below P W1 W4 := by rw [← hW4]; exact h1.setCell (by dsimp only; omega) _
    exact h2.trans (ba.mono (by have := HQ.out; omega))) HP.out.2)
  have HW5 : Hid (W4.alloc (Obj.cells #[.int .i64 0, .nilIface] 103) = W5 ∧ W3.setCell ⟨P + 1, 0, none⟩ (.int .i64 k) = W4 ∧ W4.heap.size = Q) := ⟨hW5, hW4, hQ⟩
  have x0 := HK3.out.2.2.cell 0
  have y0 := HK3.out.2.1.cell 0
  have f0 := HK3.out.2.1.frozen 0
  simp at x0 y0
  rw [hW3]
  clear hW3 hW4 hW5 hQ hz4 k40 k41 ba b2 HK1 HB1 HG1 HW1
  go_wp2_with (fail)
  rw [HW5.out.2.1]
  try rw [HW5.out.1]
  try rw [HW5.out.2.2]
  try rw [HQ.out.2]
  clear x0 y0 f0
  refine (asPlace_c a k Q #[.int .i64 0, .nilIface] W5 HG5.out HK5.out.2.2 rfl).mono ?_
  rintro e w6 ⟨rfl, v6, b6, rfl⟩
  obtain ⟨W7, hW7⟩ : ∃ W, v6.setRow Q #[.int .i64 a, .iface 99 (.int .i64 k)] = W := ⟨_, rfl⟩
  have HB7 : Hid (Below w.heap.size w W7) := by rw [← hW7]; exact belowRow (belowCall HB5.out b6 HB5.out.size) Q (by have := HP.out; have := HQ.out; omega) _
  have HK7 : Hid (Blk W7 P (F2 0 0) 65 ∧ Blk W7 (P + 1) (F2 k 0) 65 ∧ Blk W7 Q #[.int .i64 a, .iface 99 (.int .i64 k)] 103) := by
    rw [← hW7]
    exact ⟨(HK5.out.1.below b6 HK5.out.1.lt).rowOther _ _ (by have := HQ.out; omega), (HK5.out.2.1.below b6 HK5.out.2.1.lt).rowOther _ _ (by have := HQ.out; omega), (HK5.out.2.2.below b6 HK5.out.2.2.lt).row _⟩
  rw [hW7]
  clear hW7 b6 HK5 HB5 HG5 HK3 HB3 HW3 HW5
  obtain ⟨W8, hW8⟩ : ∃ W, W7.setCell ⟨P + 1, 1, none⟩ (.int .i64 a) = W := ⟨_, rfl⟩
  have k80 := HK7.out.1.other ⟨P + 1, 1, none⟩ (.int .i64 a) (by dsimp only; omega)
  have k81 := HK7.out.2.1.set 1 (.int .i64 a)
  have HBF : Hid (Below w.heap.size w (((W7.setCell ⟨P + 1, 1, none⟩ (.int .i64 a)).setCell ⟨P, 0, none⟩ (.int .i64 k)).setCell ⟨P, 1, none⟩ (.int .i64 a))) := ((HB7.out.setCell (by have := HP.out; dsimp only; omega) _).setCell (by have := HP.out; dsimp only; omega) _).setCell (by have := HP.out; dsimp only; omega) _
  have HKF : Hid (Blk (((W7.setCell ⟨P + 1, 1, none⟩ (.int .i64 a)).setCell ⟨P, 0, none⟩ (.int .i64 k)).setCell ⟨P, 1, none⟩ (.int .i64 a)) P (F2 k a) 65) := by
    show Blk _ _ _ _
    have := (k80.set 0 (.int .i64 k)).set 1 (.int .i64 a)
    simpa using this
  have x0 := HK7.out.2.2.cell 0
  have y0 := HK7.out.2.1.cell 0
  have y1 := HK7.out.2.1.cell 1
  have g1 := HK7.out.2.1.frozen 1
  have z0 := HK7.out.1.cell 0
  have z1 := HK7.out.1.cell 1
  have h0 := HK7.out.1.frozen 0
  have h1 := HK7.out.1.frozen 1
  simp at x0 y0 y1 z0 z1
  clear hW8 W8 k80 k81 HB7 HK7
  go_wp2
  exact bodyPost_ret (v := .agg (F2 k a)) (results_cell_row rfl _ _ _ 65 _ (0, 0) _ rfl HKF.out Tryd.underlying65 rfl sizeFl) rfl ⟨rfl, HBF.out⟩

end Go.Proofs.YtmfmlbiplagmiaaDoor
