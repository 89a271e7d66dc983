/- Who takes a caller; no condition. -/
import Derived.Test.YtpmmgbinogokfaaBst
namespace Go.Proofs.Ytpmmgbinogokfaa
open Go.RowKit Go.ChangeShapes Go.WideShapes Go.ChangeAt
set_option linter.unusedVariables false
set_option linter.unusedSimpArgs false
set_option maxRecDepth 8000
def mxT : Int := 1000000000
/-- can an agent take a caller for this skill -/
def fitB (k : Int) (a : Ag) : Bool := (a.2.1 == -1) && (bits BinOp.and IntKind.i64 a.1 k != 0)
set_option maxHeartbeats 800000 in
theorem canTake_c (a : Ag) (q : Wt) (w : World) : Calls Try.prog 101 #[.agg #[.int .i64 a.1, .int .i64 a.2.1, .int .i64 a.2.2], .agg #[.int .i64 q.1, .int .i64 q.2.1, .int .i64 q.2.2.1, .int .i64 q.2.2.2]] w fun e w' => e = .returned (.bool (fitB q.2.1 a)) ∧ Below w.heap.size w w' := by
  obtain ⟨s, b, t⟩ := a
  obtain ⟨c, k, p, u⟩ := q
  simp only
  go_enter Try.func101, Try.ntmps101
  go_wp2
  all_goals
    go_ret
    refine ⟨?_, ((Below.refl _ _).alloc (Nat.le_refl _) _).alloc (by simp) _⟩
    first | (simp_all [fitB]; done) | (simp_all [fitB]; rfl)
set_option maxHeartbeats 800000 in
theorem fitAg_c (a : Ag) (q : Wt) (B : Nat) (w : World) (hB : Blk w B (wtC q).toArray 74) : Calls Try.prog 100 #[.agg #[.int .i64 a.1, .int .i64 a.2.1, .int .i64 a.2.2], .pointer (some ⟨B, 0, none⟩)] w fun e w' => e = .returned (.bool (fitB q.2.1 a)) ∧ Below w.heap.size w w' := by
  obtain ⟨W1, hW1⟩ : ∃ W1, w.alloc (Obj.cells #[.int .i64 a.1, .int .i64 a.2.1, .int .i64 a.2.2] 36) = W1 := ⟨_, rfl⟩
  have B1 : Hid (Below w.heap.size w W1) := hW1 ▸ (Below.refl _ _).alloc (Nat.le_refl _) _
  have hlt := hB.lt
  have c0 := hB.cell 0
  have c1 := hB.cell 1
  have c2 := hB.cell 2
  have c3 := hB.cell 3
  simp [wtC] at c0 c1 c2 c3
  have HW1 : Hid (_ = W1) := hW1
  clear hW1 hB
  go_enter Try.func100, Try.ntmps100
  go_wp2_with (fail)
  rw [HW1.out]
  refine (canTake_c a q W1).mono ?_
  rintro e w2 ⟨rfl, b2⟩
  have HF : Hid (Below w.heap.size w w2) := belowCall B1.out b2 B1.out.size
  clear b2 c0 c1 c2 c3
  go_wp2
  go_ret
  exact ⟨rfl, HF.out⟩
/-- the agent that takes a caller for this skill -/
def taker (gs : List Ag) (k : Int) : Option Nat := best (fitB k) cmpA gs
def SkOk (gs : List Ag) : Prop := ∀ a ∈ gs, 0 ≤ a.1 ∧ a.1 ≤ 255
set_option maxHeartbeats 1600000 in
theorem agentFor_c (v : Value) (gs : List Ag) (q : Wt) (w : World) (h : Rg 3 agC w v gs) (hs : SkOk gs) :
   Calls Try.prog 85 #[v, .agg #[.int .i64 q.1, .int .i64 q.2.1, .int .i64 q.2.2.1, .int .i64 q.2.2.2]] w fun e w' => e = .returned (.int .i64 (optI (taker gs q.2.1))) ∧ Below w.heap.size w w' := by
  obtain ⟨W1, hW1⟩ : ∃ W1, w.alloc (Obj.cells #[.int .i64 q.1, .int .i64 q.2.1, .int .i64 q.2.2.1, .int .i64 q.2.2.2] 74) = W1 := ⟨_, rfl⟩
  have b1 : Below w.heap.size w W1 := hW1 ▸ (Below.refl _ _).alloc (Nat.le_refl _) _
  have k1 : Blk W1 w.heap.size (wtC q).toArray 74 := hW1 ▸ Blk.new _ _ _
  have B1 : Hid (Below w.heap.size w W1) := b1
  have HC : Hid (Calls Try.prog 102 #[v, .func (.func 100) #[] #[.pointer (some ⟨w.heap.size, 0, none⟩)], .func (.func 103) #[] #[]] W1 fun e w' => e = .returned (.int .i64 (optI (taker gs q.2.1))) ∧ Below W1.heap.size W1 w') :=
    bestAg_c v _ #[.pointer (some ⟨w.heap.size, 0, none⟩)] gs (fitB q.2.1) cmpA W1 (h.below b1) rfl (fun x hx W hW => fitAg_c x q w.heap.size W (k1.below hW k1.lt)) (fun x hx y hy W hW => cmpAg_c x y W (hs x hx) (hs y hy))
  have HW1 : Hid (_ = W1) := hW1
  obtain ⟨a, cap, rfl, -⟩ := h
  clear hW1 b1 k1
  go_enter Try.func85, Try.ntmps85
  go_wp2_with (fail)
  rw [HW1.out]
  refine HC.out.mono ?_
  rintro e w2 ⟨rfl, b2⟩
  have HF : Hid (Below w.heap.size w w2) := belowCall B1.out b2 B1.out.size
  clear b2
  go_wp2
  go_ret
  exact ⟨rfl, HF.out⟩
end Go.Proofs.Ytpmmgbinogokfaa
