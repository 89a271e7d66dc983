/- What is wrong with a cell: the plain function, and contracts of the program's functions that tell it; no condition. -/
import Derived.Test.YtadhiddnjhjioaaRegG
import Derived.Test.YtadhiddnjhjioaaSlA
import Derived.Lib.SliceRun
namespace Go.Proofs.Ytadhiddnjhjioaa
open Go.RowKit Go.ChangeShapes Go.WideShapes Go.ChangeAt
set_option linter.unusedVariables false
set_option linter.unusedSimpArgs false
def cnt (c : List Int) : Int := c.getD 0 0 % 16
def lastB (c : List Int) : Bool := decide (128 ≤ c.getD 0 0)
def numB (c : List Int) : Int := c.getD 0 0 / 16 % 8
/-- the cell with noughts behind what counts -/
def noPad (c : List Int) : List Int := (List.range 16).map fun (i : Nat) => if (i : Int) ≤ cnt c then c.getD i 0 else 0
def faultF (c : List Int) (j : Nat) (over : Bool) : Int :=
  if cnt c = 0 ∨ (cnt c < 15 ∧ lastB c = false) then 1 else if c ≠ noPad c then 2 else if numB c ≠ (j : Int) % 8 then 3 else if over then 4 else 0
theorem noPad_at (c : List Int) (i : Nat) (hi : i < 16) : (noPad c).getD i 0 = if (i : Int) ≤ cnt c then c.getD i 0 else 0 := by
  simp [noPad, List.getElem?_map, List.getElem?_range hi]
theorem noPad_B {c : List Int} (hc : B16 c) : B16 (noPad c) := by
  refine ⟨by simp [noPad], fun z hz => ?_⟩
  simp only [noPad, List.mem_map] at hz
  obtain ⟨i, _, rfl⟩ := hz
  split
  · exact B16_at hc i
  · omega
theorem cnt_bd (c : List Int) : 0 ≤ cnt c ∧ cnt c ≤ 15 := by unfold cnt; omega
set_option maxHeartbeats 800000 in
theorem cnt_c (c : List Int) (hc : B16 c) (w : World) : Calls Try.prog 55 #[.agg (A16 c)] w fun e w' => e = .returned (.int .i64 (cnt c)) ∧ Below w.heap.size w w' := by
  have h0 := (Blk.new w (A16 c) 29).cell 0
  rw [A16_at hc 0 (by omega)] at h0
  have hb := B16_at hc 0
  have HC : Hid (cnt c = c.getD 0 0 % 16) := rfl
  generalize c.getD 0 0 = z at h0 hb HC
  go_enter Try.func55, Try.ntmps55
  go_wp2
  go_ret
  exact ⟨by rw [HC.out]; rfl, (Below.refl _ _).alloc (Nat.le_refl _) _⟩
set_option maxHeartbeats 800000 in
theorem last_c (c : List Int) (hc : B16 c) (w : World) : Calls Try.prog 56 #[.agg (A16 c)] w fun e w' => e = .returned (.bool (lastB c)) ∧ Below w.heap.size w w' := by
  have h0 := (Blk.new w (A16 c) 29).cell 0
  rw [A16_at hc 0 (by omega)] at h0
  have hb := B16_at hc 0
  have HC : Hid (lastB c = decide (128 ≤ c.getD 0 0)) := rfl
  generalize c.getD 0 0 = z at h0 hb HC
  go_enter Try.func56, Try.ntmps56
  go_wp2
  go_ret
  exact ⟨by rw [HC.out]; rfl, (Below.refl _ _).alloc (Nat.le_refl _) _⟩
set_option maxHeartbeats 800000 in
theorem num_c (c : List Int) (hc : B16 c) (w : World) : Calls Try.prog 66 #[.agg (A16 c)] w fun e w' => e = .returned (.int .i64 (numB c)) ∧ Below w.heap.size w w' := by
  have h0 := (Blk.new w (A16 c) 29).cell 0
  rw [A16_at hc 0 (by omega)] at h0
  have hb := B16_at hc 0
  have HC : Hid (numB c = c.getD 0 0 / 16 % 8) := rfl
  generalize c.getD 0 0 = z at h0 hb HC
  go_enter Try.func66, Try.ntmps66
  go_wp2
  go_ret
  exact ⟨by rw [HC.out]; rfl, (Below.refl _ _).alloc (Nat.le_refl _) _⟩
theorem Blk.cells {t : TypeId} {g : Nat} : ∀ (vs : List Value) (o : Nat) (w : World) (cs : Array Value), Blk w g cs t → ∃ cs', Blk (w.setCells g o vs) g cs' t ∧ cs'.size = cs.size
  | [], _, w, cs, h => ⟨cs, h, rfl⟩
  | v :: r, o, w, cs, h => by
    obtain ⟨cs', h1, h2⟩ := Blk.cells r (o + 1) _ _ (h.set o v)
    exact ⟨cs', h1, by simpa using h2⟩
theorem Blk.cellsOther {t : TypeId} {g b : Nat} {cs : Array Value} (hne : b ≠ g) : ∀ (vs : List Value) (o : Nat) (w : World), Blk w b cs t → Blk (w.setCells g o vs) b cs t
  | [], _, w, h => h
  | v :: r, o, w, h => Blk.cellsOther hne r (o + 1) _ (h.other _ _ hne)
theorem belowCells {B g : Nat} (hg : B ≤ g) {a : World} : ∀ (vs : List Value) (o : Nat) (w : World), Below B a w → Below B a (w.setCells g o vs)
  | [], _, w, h => h
  | v :: r, o, w, h => belowCells hg r (o + 1) _ (h.setCell (by exact hg) _)
/-- noughts from a place on -/
theorem Blk.clear {w : World} {g : Nat} {c : List Int} (hc : B16 c) (h : Blk w g (A16 c) 29) (n : Nat) (hn : (n : Int) = cnt c) : Blk (w.setCells g (n + 1) (List.replicate (15 - n) (.int .u8 0))) g (A16 (noPad c)) 29 := by
  have hb := cnt_bd c
  obtain ⟨cs', h1, h2⟩ := Blk.cells (List.replicate (15 - n) (.int .u8 0)) (n + 1) w (A16 c) h
  rw [A16_size hc] at h2
  have e : cs' = A16 (noPad c) := by
    apply Array.ext_getElem?
    intro i
    by_cases hi : i < 16
    · rw [A16_at (noPad_B hc) i hi, ← h1.cell i, noPad_at c i hi]
      by_cases hin : i ≤ n
      · rw [if_pos (by omega), World.cell?_setCells_out g _ _ w ⟨g, i, none⟩ (fun _ _ => .inl (by show i < n + 1; omega)), h.cell i, A16_at hc i hi]
      · rw [if_neg (by omega)]
        have := World.cell?_setCells_in g (List.replicate (15 - n) (Value.int .u8 0)) (n + 1) w (fun j hj => by rw [h.cell, A16_at hc _ (by simp at hj; omega)]; rfl) (i - (n + 1)) (by simp; omega)
        rw [show n + 1 + (i - (n + 1)) = i by omega] at this
        rw [this]; simp
    · rw [Array.getElem?_eq_none (by omega), Array.getElem?_eq_none (by rw [A16_size (noPad_B hc)]; omega)]
  rw [← e]; exact h1
end Go.Proofs.Ytadhiddnjhjioaa
