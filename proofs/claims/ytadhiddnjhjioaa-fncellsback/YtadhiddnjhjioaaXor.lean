/- Contracts of the exclusive-or of two arrays of sixteen bytes (the model's and the program's) and of their comparison; no condition. -/
import Derived.Test.YtadhiddnjhjioaaCell
import Derived.ChangeOld
import Derived.Deep.QuietTactic
import Derived.BigQuiet
namespace Go.Proofs.Ytadhiddnjhjioaa
open Go.RowKit Go.ChangeShapes Go.WideShapes Go.ChangeAt
set_option linter.unusedVariables false
set_option linter.unusedSimpArgs false
def xb (x y : Int) : Int := bits .xor .u8 x y
def xz (a b : List Int) (k : Nat) : List Int := (List.range 16).map fun i => if i < k then xb (a.getD i 0) (b.getD i 0) else a.getD i 0
theorem xb_bd (x y : Int) : 0 ≤ xb x y ∧ xb x y ≤ 255 := bounds_u8 (wf_bits .xor .u8 x y)
theorem xz_at (a b : List Int) (k i : Nat) (hi : i < 16) : (xz a b k).getD i 0 = if i < k then xb (a.getD i 0) (b.getD i 0) else a.getD i 0 := by
  simp [xz, List.getElem?_map, List.getElem?_range hi]
theorem xz_B16 {a : List Int} (b : List Int) (ha : B16 a) (k : Nat) : B16 (xz a b k) := by
  refine ⟨by simp [xz], ?_⟩
  intro z hz
  simp only [xz, List.mem_map] at hz
  obtain ⟨i, _, rfl⟩ := hz
  split
  · exact xb_bd _ _
  · exact B16_at ha i
theorem xz_zero {a : List Int} (b : List Int) (ha : B16 a) : xz a b 0 = a := B16_ext (xz_B16 b ha 0) ha fun i hi => by rw [xz_at _ _ _ _ hi]; simp
theorem A16_set {zs ys : List Int} (hz : B16 zs) (hy : B16 ys) (k : Nat) (hk : k < 16) (x : Int) (hx : ys.getD k 0 = x) (ho : ∀ i, i < 16 → i ≠ k → ys.getD i 0 = zs.getD i 0) :
    (A16 zs).setIfInBounds k (.int .u8 x) = A16 ys := by
  have e : (A16 zs).setIfInBounds k (.int .u8 x) = A16 (zs.set k x) := by
    apply Array.ext'; simp [A16, List.map_set]
  rw [e]
  have hb : B16 (zs.set k x) := by
    refine ⟨by simp [hz.1], fun z h => ?_⟩
    rcases List.mem_or_eq_of_mem_set h with h | h
    · exact hz.2 z h
    · rw [h, ← hx]; exact B16_at hy k
  rw [B16_ext hb hy fun i hi => ?_]
  have h1 := hz.1
  by_cases hik : i = k
  · subst hik; rw [hx]; simp [List.getElem?_set, h1, hi]
  · rw [ho i hi hik]; simp [List.getElem?_set, Ne.symm hik]
theorem xz_step {a : List Int} (b : List Int) (ha : B16 a) (k : Nat) (hk : k < 16) : (A16 (xz a b k)).setIfInBounds k (.int .u8 (xb (a.getD k 0) (b.getD k 0))) = A16 (xz a b (k + 1)) :=
  A16_set (xz_B16 b ha k) (xz_B16 b ha (k + 1)) k hk _ (by rw [xz_at _ _ _ _ hk]; simp) fun i hi hne => by
    rw [xz_at _ _ _ _ hi, xz_at _ _ _ _ hi]
    by_cases h : i < k
    · rw [if_pos h, if_pos (by omega)]
    · rw [if_neg h, if_neg (by omega)]
set_option maxHeartbeats 800000 in
theorem xor_spec (a b : List Int) (ha : B16 a) (hb : B16 b) (w : World) :
   Calls Try.prog 42 #[.agg (A16 a), .agg (A16 b)] w fun e w' => e = .returned (.agg (A16 (xz a b 16))) ∧ Below w.heap.size w w' := by
  go_enter Try.func42, Try.ntmps42
  go_wp2
  go_loopw [5] (fun i wr => ∃ k : Nat, k ≤ 16 ∧ i = .int .i64 k ∧ Blk wr w.heap.size (A16 (xz a b k)) 29 ∧ Blk wr (w.heap.size + 1) (A16 b) 29 ∧ Blk wr (w.heap.size + 1 + 1) (cp a 0) 29 ∧ Below w.heap.size w wr) (fun i _ => 16 - (intOf i).toNat)
  case atStart =>
    exact ⟨0, by omega, rfl, by rw [xz_zero b ha]; exact ((Blk.new _ _ _).alloc _).alloc _, (Blk.newAt _ _ _ _ (by simp)).alloc _, by rw [cp_zero]; exact Blk.newAt _ _ _ _ (by simp), (((Below.refl _ _).alloc (Nat.le_refl _) _).alloc (by simp) _).alloc (by simp; omega) _⟩
  case round =>
    obtain ⟨k, hk, rfl, h0, h1, h2, hbel⟩ := hrel
    by_cases hlt : k < 16
    · have hc := h0.cell k
      rw [A16_at (xz_B16 b ha k) k hlt, xz_at _ _ _ _ hlt, if_neg (by omega)] at hc
      have hd := h1.cell k
      rw [A16_at hb k hlt] at hd
      have hf := h0.frozen k
      have hi : (0 : Int) ≤ (k : Int) := by omega
      have hi2 : (k : Int) < 16 := by omega
      go_wp2
      go_region
      go_wp2
      go_roundw
      case rel =>
        refine ⟨k + 1, by omega, by go_num, ?_, (h1.other _ _ (by dsimp only; omega)).drew, (h2.other _ _ (by dsimp only; omega)).drew, (hbel.setCell (by dsimp only; omega) _).drew⟩
        have := h0.set k (.int .u8 (xb (a.getD k 0) (b.getD k 0)))
        rw [xz_step b ha k hlt] at this
        simpa [xb] using this.drew
      case measure => simp [intOf]; omega
    · obtain rfl : k = 16 := by omega
      have hx := xz_B16 b ha 16
      have hs16 := A16_size hx
      go_wp2_with (first | refine ld29 rfl _ rfl _ rfl 29 (A16 (xz a b 16)) (0, 0) h0 hs16 ?_ | refine st29 rfl _ _ rfl _ rfl (xz a b 16) hx rfl 29 (cp a 0) h2 (cp_size ha 0 (by omega)) ?_)
      have h3 := h2.row (A16 (xz a b 16))
      exact bodyPost_ret (v := .agg (A16 (xz a b 16))) (results_cell_row rfl _ _ _ 29 (A16 (xz a b 16)) (0, 0) _ rfl h3 Try.underlying29 rfl (by rw [hs16]; exact size29)) rfl ⟨rfl, belowRow hbel _ (by omega) _⟩
set_option maxHeartbeats 800000 in
theorem xor_impl (a b : List Int) (ha : B16 a) (hb : B16 b) (w : World) :
   Calls Try.prog 20 #[.agg (A16 a), .agg (A16 b)] w fun e w' => e = .returned (.agg (A16 (xz a b 16))) ∧ Below w.heap.size w w' := by
  go_enter Try.func20, Try.ntmps20
  go_wp2
  go_loopw [6] (fun i wr => ∃ k : Nat, k ≤ 16 ∧ i = .int .i64 k ∧ Blk wr w.heap.size (A16 (xz a b k)) 29 ∧ Blk wr (w.heap.size + 1) (A16 b) 29 ∧ Blk wr (w.heap.size + 1 + 1) (cp a 0) 29 ∧ Below w.heap.size w wr) (fun i _ => 16 - (intOf i).toNat)
  case atStart =>
    exact ⟨0, by omega, rfl, by rw [xz_zero b ha]; exact ((Blk.new _ _ _).alloc _).alloc _, (Blk.newAt _ _ _ _ (by simp)).alloc _, by rw [cp_zero]; exact Blk.newAt _ _ _ _ (by simp), (((Below.refl _ _).alloc (Nat.le_refl _) _).alloc (by simp) _).alloc (by simp; omega) _⟩
  case round =>
    obtain ⟨k, hk, rfl, h0, h1, h2, hbel⟩ := hrel
    by_cases hlt : k < 16
    · have hc := h0.cell k
      rw [A16_at (xz_B16 b ha k) k hlt, xz_at _ _ _ _ hlt, if_neg (by omega)] at hc
      have hd := h1.cell k
      rw [A16_at hb k hlt] at hd
      have hf := h0.frozen k
      have hi : (0 : Int) ≤ (k : Int) := by omega
      have hi2 : (k : Int) < 16 := by omega
      go_wp2
      go_region
      go_wp2
      go_roundw
      case rel =>
        refine ⟨k + 1, by omega, by go_num, ?_, (h1.other _ _ (by dsimp only; omega)).drew, (h2.other _ _ (by dsimp only; omega)).drew, (hbel.setCell (by dsimp only; omega) _).drew⟩
        have := h0.set k (.int .u8 (xb (a.getD k 0) (b.getD k 0)))
        rw [xz_step b ha k hlt] at this
        simpa [xb] using this.drew
      case measure => simp [intOf]; omega
    · obtain rfl : k = 16 := by omega
      have hx := xz_B16 b ha 16
      have hs16 := A16_size hx
      go_wp2_with (first | refine ld29 rfl _ rfl _ rfl 29 (A16 (xz a b 16)) (0, 0) h0 hs16 ?_ | refine st29 rfl _ _ rfl _ rfl (xz a b 16) hx rfl 29 (cp a 0) h2 (cp_size ha 0 (by omega)) ?_)
      have h3 := h2.row (A16 (xz a b 16))
      exact bodyPost_ret (v := .agg (A16 (xz a b 16))) (results_cell_row rfl _ _ _ 29 (A16 (xz a b 16)) (0, 0) _ rfl h3 Try.underlying29 rfl (by rw [hs16]; exact size29)) rfl ⟨rfl, belowRow hbel _ (by omega) _⟩
/-- two arrays of sixteen held against one another -/
def eq16 (a b : List Int) : Bool := decide (a = b)
set_option maxHeartbeats 800000 in
theorem eq_16 (a b : List Int) (ha : B16 a) (hb : B16 b) (w : World) :
   Calls Try.prog 30 #[.agg (A16 a), .agg (A16 b)] w fun e w' => e = .returned (.bool (eq16 a b)) ∧ Below w.heap.size w w' := by
  go_enter Try.func30, Try.ntmps30
  go_wp2
  go_loopw [5] (fun i wr => ∃ k : Nat, k ≤ 16 ∧ i = .int .i64 k ∧ (∀ j, j < k → a.getD j 0 = b.getD j 0) ∧ Blk wr w.heap.size (A16 a) 29 ∧ Blk wr (w.heap.size + 1) (A16 b) 29 ∧ Below w.heap.size w wr) (fun i _ => 16 - (intOf i).toNat)
  case atStart =>
    exact ⟨0, by omega, rfl, fun j hj => by omega, (Blk.new _ _ _).alloc _, Blk.newAt _ _ _ _ (by simp), ((Below.refl _ _).alloc (Nat.le_refl _) _).alloc (by simp) _⟩
  case round =>
    obtain ⟨k, hk, rfl, hall, h0, h1, hbel⟩ := hrel
    by_cases hlt : k < 16
    · have hc := h0.cell k
      rw [A16_at ha k hlt] at hc
      have hd := h1.cell k
      rw [A16_at hb k hlt] at hd
      have hi : (0 : Int) ≤ (k : Int) := by omega
      have hi2 : (k : Int) < 16 := by omega
      have HA : Hid (∀ j, j < k → a.getD j 0 = b.getD j 0) := hall
      clear hall
      go_wp2
      go_quiet (fail)
      go_wp2
      · have hne : (a[k]?.getD 0 != b[k]?.getD 0) = true := by assumption
        have hab : eq16 a b = false := by
          simp only [eq16, decide_eq_false_iff_not]
          intro h; subst h; simp at hne
        go_ret
        exact ⟨by rw [hab]; rfl, below_drewN hbel _⟩
      · have he : (a[k]?.getD 0 != b[k]?.getD 0) = false := by assumption
        go_roundw
        case rel =>
          refine ⟨k + 1, by omega, by go_num, fun j hj => ?_, h0.drewN _, h1.drewN _, below_drewN hbel _⟩
          by_cases hjk : j < k
          · exact HA.out j hjk
          · obtain rfl : j = k := by omega
            simpa using he
        case measure => simp [intOf]; omega
    · obtain rfl : k = 16 := by omega
      have hab : eq16 a b = true := by simp only [eq16, decide_eq_true_eq]; exact B16_ext ha hb hall
      clear hall
      go_wp2
      go_ret
      exact ⟨by rw [hab]; rfl, hbel⟩
end Go.Proofs.Ytadhiddnjhjioaa
