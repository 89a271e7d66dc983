/- Contracts of the functions on arrays of sixteen bytes (their sums, their copies); no condition. -/
import Derived.Test.YtadhiddnjhjioaaBase

namespace Go.Proofs.Ytadhiddnjhjioaa
open Go.RowKit
set_option linter.unusedVariables false
set_option linter.unusedSimpArgs false
theorem idx16 (cs : Array Value) (k : Nat) (v : Value) (hk : k < 16) (hc : cs[k]? = some v) (w : World) :
    (Instr.index 29 (.agg cs) (.int .i64 (k : Int))).run Try.prog w = .ok v w := by
  have h5 : (sizeOf 5).run Try.prog w = .ok 1 w := rfl
  have ha : (isAgg 5).run Try.prog w = .ok false w := by
    unfold isAgg; rw [Sem.run_bind, run_underlying Try.underlying5 w]; rfl
  have hk' : (k : Int) < 16 := by omega
  have hn : ¬ 16 ≤ k := by omega
  simp [Instr.index, asIntOf, run_underlying Try.underlying29, hk', part, ha, h5, hc, hn]
/-- a whole array of sixteen out of a block's head -/
theorem ld29 {ops : Array Oper} {rest : List Oper} {o : Oper} {a : Act} {w : World} {Q : Exit → Act → World → Prop} (hgd : o.guard = none) (x : Operand) (ho : o.op = .load 29 x)
    (g : Nat) (hx : a.eval x = .pointer (some ⟨g, 0, none⟩)) (t : TypeId) (cs : Array Value) (fr : Nat × Nat) (hg : w.heap[g]? = some (.cells cs t fr)) (hs : cs.size = 16)
    (h : wpList Try.prog ops Q rest (a.put o.dst (.agg cs)) w) : wpList Try.prog ops Q (o :: rest) a w :=
  wpList_load_row hgd 29 x ho g hx t cs fr _ hg Try.underlying29 rfl (by rw [hs]; exact size29) h
set_option maxHeartbeats 400000 in
theorem sum_spec (cs : Array Value) (zs : List Int) (hz : B16 zs) (hs : cs = A16 zs) (w : World) :
   Calls Try.prog 40 #[.agg cs] w fun e w' => e = .returned (.int .i64 (sumTo zs 16 % 251)) ∧ Below w.heap.size w w' := by
  have hcell : ∀ k, k < 16 → (w.alloc (Obj.cells cs 29)).cell? ⟨w.heap.size, k, none⟩ = some (.int .u8 (zs.getD k 0)) := by
    intro k hk; rw [cell_box, hs]; exact A16_at hz k hk
  clear hs
  go_enter Try.func40, Try.ntmps40
  go_wp2
  go_loop [3, 4] (fun s i => ∃ k : Nat, k ≤ 16 ∧ i = .int .i64 k ∧ s = .int .i64 (sumTo zs k)) (fun _ i => 16 - (intOf i).toNat)
  case atStart => exact ⟨0, by omega, rfl, rfl⟩
  case round =>
    obtain ⟨k, hk, rfl, rfl⟩ := hrel
    have hb := sumTo_bd hz k hk
    by_cases hlt : k < 16
    · have hc := hcell k hlt
      have hb' := B16_at hz k
      clear hcell
      go_wp2
      go_round
      case rel => exact ⟨k + 1, by omega, by go_num, val_int (sumTo_step hz k hlt)⟩
      case measure => simp [intOf]; omega
    · clear hcell
      obtain rfl : k = 16 := by omega
      go_wp2
      go_ret
      exact ⟨rfl, (Below.refl _ _).alloc (Nat.le_refl _) _⟩
set_option maxHeartbeats 400000 in
theorem sum_impl (cs : Array Value) (zs : List Int) (hz : B16 zs) (hs : cs = A16 zs) (w : World) :
   Calls Try.prog 22 #[.agg cs] w fun e w' => e = .returned (.int .i64 (sumTo zs 16 % 251)) ∧ Below w.heap.size w w' := by
  have hsz : cs.size = 16 := by rw [hs]; exact A16_size hz
  have hidx : ∀ k : Nat, k < 16 → ∀ w, (Instr.index 29 (.agg cs) (.int .i64 (k : Int))).run Try.prog w = .ok (.int .u8 (zs.getD k 0)) w := by
    intro k hk w; rw [hs]; exact idx16 _ k _ hk (A16_at hz k hk) w
  clear hs
  go_enter Try.func22, Try.ntmps22
  go_wp2_with (refine ld29 rfl _ rfl _ rfl 29 cs (0, 0) (heap_alloc_last _ _) hsz ?_)
  go_loop [3, 7] (fun s i => ∃ k : Nat, k ≤ 16 ∧ i = .int .i64 k ∧ s = .int .i64 (sumTo zs k)) (fun _ i => 16 - (intOf i).toNat)
  case atStart => exact ⟨0, by omega, rfl, rfl⟩
  case round =>
    obtain ⟨k, hk, rfl, rfl⟩ := hrel
    have hb := sumTo_bd hz k hk
    by_cases hlt : k < 16
    · have hc := hidx k hlt
      have hb' := B16_at hz k
      clear hidx
      go_wp2
      go_round
      case rel => exact ⟨k + 1, by omega, by go_num, val_int (sumTo_step' hz k hlt)⟩
      case measure => simp [intOf]; omega
    · clear hidx
      obtain rfl : k = 16 := by omega
      go_wp2
      go_ret
      exact ⟨rfl, (Below.refl _ _).alloc (Nat.le_refl _) _⟩

/-- a whole array of sixteen into a block's head -/
theorem st29 {ops : Array Oper} {rest : List Oper} {o : Oper} {a : Act} {w : World} {Q : Exit → Act → World → Prop} (hgd : o.guard = none) (x y : Operand) (ho : o.op = .store 29 x y)
    (g : Nat) (hx : a.eval x = .pointer (some ⟨g, 0, none⟩)) (zs : List Int) (hz : B16 zs) (hy : a.eval y = .agg (A16 zs)) (t : TypeId) (old : Array Value) (hg : Blk w g old t) (hs : old.size = 16)
    (h : wpList Try.prog ops Q rest (a.put o.dst undef) (w.setRow g (A16 zs))) : wpList Try.prog ops Q (o :: rest) a w :=
  wpList_store_row hgd 29 x y ho g (A16 zs) hx hy t old hg (by rw [A16_size hz]; exact size29) (by rw [A16_size hz]; exact hs) (by simp [A16, Value.oneCell']) h
set_option maxHeartbeats 400000 in
theorem to16 (zs : List Int) (hz : B16 zs) (w : World) :
   Calls Try.prog 41 #[.agg (A16 zs)] w fun e w' => e = .returned (.agg (A16 zs)) ∧ Below w.heap.size w w' := by
  have hs16 := A16_size hz
  go_enter Try.func41, Try.ntmps41
  go_wp2
  go_loopw [4] (fun i wr => ∃ k : Nat, k ≤ 16 ∧ i = .int .i64 k ∧ Blk wr w.heap.size (A16 zs) 29 ∧ Blk wr (w.heap.size + 1) (cp zs 0) 29 ∧ Blk wr (w.heap.size + 1 + 1) (cp zs k) 29 ∧ Below w.heap.size w wr) (fun i _ => 16 - (intOf i).toNat)
  case atStart =>
    rw [cp_zero]
    exact ⟨0, by omega, rfl, ((Blk.new _ _ _).alloc _).alloc _, (Blk.newAt _ _ _ _ (by simp)).alloc _, by rw [cp_zero]; exact Blk.newAt _ _ _ _ (by simp), (((Below.refl _ _).alloc (Nat.le_refl _) _).alloc (by simp) _).alloc (by simp; omega) _⟩
  case round =>
    obtain ⟨k, hk, rfl, h0, h1, h2, hb⟩ := hrel
    by_cases hlt : k < 16
    · have hc := h0.cell k
      rw [A16_at hz k hlt] at hc
      have hd : ∃ v, wr.cell? ⟨w.heap.size + 1 + 1, k, none⟩ = some v := by rw [h2.cell k]; exact ⟨_, Array.getElem?_eq_getElem (by rw [cp_size hz k hk]; exact hlt)⟩
      obtain ⟨v, hd⟩ := hd
      have hf := h2.frozen k
      go_wp2
      go_roundw
      case rel =>
        refine ⟨k + 1, by omega, by go_num, h0.other _ _ (by dsimp only; omega), h1.other _ _ (by dsimp only; omega), ?_, hb.setCell (by simp; omega) _⟩
        have := h2.set k (.int .u8 (zs.getD k 0))
        rw [cp_set hz k hlt] at this
        simpa using this
      case measure => simp [intOf]; omega
    · obtain rfl : k = 16 := by omega
      rw [cp_full hz] at h2
      go_wp2_with (first | refine ld29 rfl _ rfl _ rfl 29 (A16 zs) (0, 0) h2 hs16 ?_ | refine st29 rfl _ _ rfl _ rfl zs hz rfl 29 (cp zs 0) h1 (cp_size hz 0 (by omega)) ?_)
      have h3 := h1.row (A16 zs)
      exact bodyPost_ret (v := .agg (A16 zs)) (results_cell_row rfl _ _ _ 29 (A16 zs) (0, 0) _ rfl h3 Try.underlying29 rfl (by rw [hs16]; exact size29)) rfl ⟨rfl, belowRow hb _ (by omega) _⟩
end Go.Proofs.Ytadhiddnjhjioaa
