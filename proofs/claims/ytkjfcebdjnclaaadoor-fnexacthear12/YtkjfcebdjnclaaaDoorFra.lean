/- Arrays of sixteen bytes; no condition. -/
import Derived.Test.YtkjfcebdjnclaaaDoorMixC
import Derived.Test.YtkjfcebdjnclaaaDoorSl
import Derived.Test.YtkjfcebdjnclaaaDoorFlt
import Derived.Deep.MidRow
namespace Go.Proofs.YtkjfcebdjnclaaaDoor
open Go.RowKit Go.ChangeShapes Go.WideShapes Go.ChangeAt
set_option linter.unusedVariables false
set_option linter.unusedSimpArgs false
set_option maxRecDepth 8000

/-- sixteen bytes as cells -/
def frF (f : Nat → Int) : List Value := (List.range 16).map fun i => .int .u8 (f i)
abbrev A16 (f : Nat → Int) : Array Value := (frF f).toArray
theorem frF_len (f : Nat → Int) : (frF f).length = 16 := by simp [frF]
theorem A16_size (f : Nat → Int) : (A16 f).size = 16 := by simp [frF]
theorem frF_at (f : Nat → Int) (k : Nat) (hk : k < 16) : (frF f)[k]? = some (.int .u8 (f k)) := by simp [frF, List.getElem?_range hk]
theorem A16_at (f : Nat → Int) (k : Nat) (hk : k < 16) : (A16 f)[k]? = some (.int .u8 (f k)) := by simpa using frF_at f k hk
theorem frF_one (f : Nat → Int) : ∀ u ∈ frF f, u.oneCell' = true := by
  intro u hu
  simp only [frF, List.mem_map] at hu
  obtain ⟨i, -, rfl⟩ := hu
  rfl
/-- the first k of f, noughts behind -/
def cpf (f : Nat → Int) (k : Nat) : Nat → Int := fun i => if i < k then f i else 0
theorem frF_congr {f g : Nat → Int} (h : ∀ i, i < 16 → f i = g i) : frF f = frF g := by
  unfold frF
  apply List.map_congr_left
  intro i hi
  rw [h i (by simpa using hi)]
theorem cpf_full (f : Nat → Int) : frF (cpf f 16) = frF f := frF_congr fun i hi => by simp [cpf, hi]
theorem cpf_zero (f : Nat → Int) : A16 (cpf f 0) = #[.int .u8 0, .int .u8 0, .int .u8 0, .int .u8 0, .int .u8 0, .int .u8 0, .int .u8 0, .int .u8 0, .int .u8 0, .int .u8 0, .int .u8 0, .int .u8 0, .int .u8 0, .int .u8 0, .int .u8 0, .int .u8 0] := by
  rfl
/-- one byte is put -/
def upf (f : Nat → Int) (k : Nat) (x : Int) : Nat → Int := fun i => if i = k then x else f i
theorem frF_set (f : Nat → Int) (k : Nat) (x : Int) : (frF f).set k (.int .u8 x) = frF (upf f k x) := by
  apply List.ext_getElem?
  intro i
  by_cases hi : i < 16
  · rw [frF_at _ i hi, List.getElem?_set, frF_len]
    by_cases h : k = i
    · subst h; simp [hi, upf]
    · rw [if_neg h, frF_at _ i hi]; simp [upf, Ne.symm h]
  · rw [List.getElem?_eq_none (by simp [frF_len]; omega), List.getElem?_eq_none (by simp [frF_len]; omega)]
theorem cpf_set (f : Nat → Int) (k : Nat) : frF (upf (cpf f k) k (f k)) = frF (cpf f (k + 1)) := frF_congr fun i hi => by
  unfold upf cpf
  by_cases h : i = k
  · subst h; simp
  · rw [if_neg h]
    by_cases h2 : i < k
    · rw [if_pos h2, if_pos (by omega)]
    · rw [if_neg h2, if_neg (by omega)]
theorem sizeF : (Tryd.prog.info? 32).map (·.size) = some 16 := by kernel_rfl
theorem cellsF : Tryd.prog.cellsOf 32 = 16 := by kernel_rfl
theorem cellsB : Tryd.prog.cellsOf 5 = 1 := by kernel_rfl
/-- a whole array of sixteen out of a block's head -/
theorem ldF {ops : Array Oper} {rest : List Oper} {o : Oper} {a : Act} {w : World} {Q : Exit → Act → World → Prop} (hgd : o.guard = none) (x : Operand) (ho : o.op = .load 32 x)
    (g : Nat) (hx : a.eval x = .pointer (some ⟨g, 0, none⟩)) (t : TypeId) (f : Nat → Int) (fr : Nat × Nat) (hg : w.heap[g]? = some (.cells (A16 f) t fr))
    (h : wpList Tryd.prog ops Q rest (a.put o.dst (.agg (A16 f))) w) : wpList Tryd.prog ops Q (o :: rest) a w :=
  wpList_load_row hgd 32 x ho g hx t (A16 f) fr _ hg Tryd.underlying32 rfl (by rw [A16_size]; exact sizeF) h
theorem stF {ops : Array Oper} {rest : List Oper} {o : Oper} {a : Act} {w : World} {Q : Exit → Act → World → Prop} (hgd : o.guard = none) (x y : Operand) (ho : o.op = .store 32 x y)
    (g : Nat) (hx : a.eval x = .pointer (some ⟨g, 0, none⟩)) (f : Nat → Int) (hy : a.eval y = .agg (A16 f)) (t : TypeId) (old : Array Value) (hg : Blk w g old t) (hs : old.size = 16)
    (h : wpList Tryd.prog ops Q rest (a.put o.dst undef) (w.setRow g (A16 f))) : wpList Tryd.prog ops Q (o :: rest) a w :=
  wpList_store_row hgd 32 x y ho g (A16 f) hx hy t old hg (by rw [A16_size]; exact sizeF) (by rw [A16_size]; exact hs) (by simpa using frF_one f) h
set_option maxHeartbeats 1600000 in
theorem to16_c (f : Nat → Int) (w : World) :
   Calls Tryd.prog 42 #[.agg (A16 f)] w fun e w' => e = .returned (.agg (A16 f)) ∧ Below w.heap.size w w' := by
  go_enter Tryd.func42, Tryd.ntmps42
  go_wp2
  go_loopw [4] (fun i wr => ∃ k : Nat, k ≤ 16 ∧ i = .int .i64 k ∧ Blk wr w.heap.size (A16 f) 32 ∧ Blk wr (w.heap.size + 1) (A16 (cpf f 0)) 32 ∧ Blk wr (w.heap.size + 1 + 1) (A16 (cpf f k)) 32 ∧ Below w.heap.size w wr) (fun i _ => 16 - (intOf i).toNat)
  case atStart =>
    rw [cpf_zero]
    exact ⟨0, by omega, rfl, ((Blk.new _ _ _).alloc _).alloc _, (Blk.newAt _ _ _ _ (by simp)).alloc _, by rw [cpf_zero]; exact Blk.newAt _ _ _ _ (by simp), (((Below.refl _ _).alloc (Nat.le_refl _) _).alloc (by simp) _).alloc (by simp; omega) _⟩
  case round =>
    obtain ⟨k, hk, rfl, h0, h1, h2, hb⟩ := hrel
    by_cases hlt : k < 16
    · have hc := h0.cell k
      rw [A16_at f k hlt] at hc
      have hd : ∃ v, wr.cell? ⟨w.heap.size + 1 + 1, k, none⟩ = some v := by rw [h2.cell k]; exact ⟨_, A16_at _ k hlt⟩
      obtain ⟨v, hd⟩ := hd
      have hf := h2.frozen k
      go_wp2
      go_roundw
      case rel =>
        refine ⟨k + 1, by omega, by go_num, h0.other _ _ (by dsimp only; omega), h1.other _ _ (by dsimp only; omega), ?_, hb.setCell (by simp; omega) _⟩
        have := h2.set k (.int .u8 (f k))
        rw [List.setIfInBounds_toArray, frF_set, cpf_set] at this
        simpa using this
      case measure => simp [intOf]; omega
    · obtain rfl : k = 16 := by omega
      rw [A16, cpf_full] at h2
      go_wp2_with (first | refine ldF rfl _ rfl _ rfl 32 f (0, 0) h2 ?_ | refine stF rfl _ _ rfl _ rfl f rfl 32 (A16 (cpf f 0)) h1 (A16_size _) ?_)
      have h3 := h1.row (A16 f)
      exact bodyPost_ret (v := .agg (A16 f)) (results_cell_row rfl _ _ _ 32 (A16 f) (0, 0) _ rfl h3 Tryd.underlying32 rfl (by rw [A16_size]; exact sizeF)) rfl ⟨rfl, belowRow hb _ (by omega) _⟩
set_option maxHeartbeats 1600000 in
theorem eq16_t (f : Nat → Int) (w : World) :
   Calls Tryd.prog 40 #[.agg (A16 f), .agg (A16 f)] w fun e w' => e = .returned (.bool true) ∧ Below w.heap.size w w' := by
  have HB : Hid (Blk ((w.alloc (Obj.cells (A16 f) 32)).alloc (Obj.cells (A16 f) 32)) w.heap.size (A16 f) 32) := (Blk.new _ _ _).alloc _
  have HB' : Hid (Blk ((w.alloc (Obj.cells (A16 f) 32)).alloc (Obj.cells (A16 f) 32)) (w.heap.size + 1) (A16 f) 32) := Blk.newAt _ _ _ _ (by simp)
  have HL : Hid (Below w.heap.size w ((w.alloc (Obj.cells (A16 f) 32)).alloc (Obj.cells (A16 f) 32))) := ((Below.refl _ _).alloc (Nat.le_refl _) _).alloc (by simp) _
  go_enter Tryd.func40, Tryd.ntmps40
  go_wp2
  go_loopw [5] (fun i wr => ∃ k : Nat, k ≤ 16 ∧ i = .int .i64 k ∧ Hid (Blk wr w.heap.size (A16 f) 32 ∧ Blk wr (w.heap.size + 1) (A16 f) 32 ∧ Below w.heap.size w wr)) (fun i _ => 16 - (intOf i).toNat)
  case atStart => exact ⟨0, by omega, rfl, HB.out, HB'.out, HL.out⟩
  case round =>
    obtain ⟨k, hk, rfl, hh⟩ := hrel
    by_cases hlt : k < 16
    · have hc := hh.out.1.cell k
      rw [A16_at f k hlt] at hc
      have hc' := hh.out.2.1.cell k
      rw [A16_at f k hlt] at hc'
      have hne : (f k != f k) = false := by simp
      have hi : (0 : Int) ≤ (k : Int) := by omega
      have hi2 : (k : Int) < 16 := by omega
      go_wp2
      go_quiet (fail)
      go_wp2
      go_roundw
      case rel => exact ⟨k + 1, by omega, by go_num, hh.out.1.drewN _, hh.out.2.1.drewN _, below_drewN hh.out.2.2 _⟩
      case measure => simp [intOf]; omega
    · obtain rfl : k = 16 := by omega
      go_wp2
      go_ret
      exact ⟨rfl, hh.out.2.2⟩

end Go.Proofs.YtkjfcebdjnclaaaDoor
