/- The contract of fillCell: a cell's first byte, then its bytes, noughts behind; it has at least one byte and at most fifteen. -/
import Derived.Test.YtadhiddnjhjioaaSlA
import Derived.Laws.CopyOwn

namespace Go.Proofs.Ytadhiddnjhjioaa
open Go.RowKit Go.ChangeShapes Go.WideShapes Go.ChangeAt
set_option linter.unusedVariables false
set_option linter.unusedSimpArgs false
def headOf (c m : Nat) (last : Bool) : Int := (c : Int) + 16 * ((m : Int) % 8) + (if last then 128 else 0)
def cellOf (ps : List Int) (m : Nat) (last : Bool) : List Int := headOf ps.length m last :: (ps ++ List.replicate (15 - ps.length) 0)
theorem cellOf_B {ps : List Int} (hp : bytesOk ps) (hl : ps.length ≤ 15) (m : Nat) (last : Bool) : B16 (cellOf ps m last) := by
  refine ⟨by simp [cellOf]; omega, fun z hz => ?_⟩
  simp only [cellOf, List.mem_cons, List.mem_append, List.mem_replicate] at hz
  rcases hz with rfl | hz | ⟨_, rfl⟩
  · unfold headOf; split <;> omega
  · exact hp z hz
  · omega
theorem Z16_B' : B16 (List.replicate 16 0) := ⟨rfl, by intro z hz; simp at hz; omega⟩
theorem size5 : (Try.prog.info? 5).map (·.size) = some 1 := by kernel_rfl
theorem copyEq (x : Int) (ps : List Int) (n : Nat) : ((A16 (x :: List.replicate n 0)).toList.take 1 ++ (ps.map (Value.int .u8) ++ (A16 (x :: List.replicate n 0)).toList.drop (1 + (ps.map (Value.int .u8)).length))).toArray = A16 (x :: (ps ++ List.replicate (n - ps.length) 0)) := by
  rw [A16, A16, List.length_map, show 1 + ps.length = ps.length + 1 by omega]
  simp [List.drop_replicate]
/-- bytes copied behind the first byte of an array of sixteen -/
theorem copy29 {ops : Array Oper} {rest : List Oper} {o : Oper} {a : Act} {w : World} {Q : Exit → Act → World → Prop} (hgd : o.guard = none) (d s : Operand)
    (ho : o.op = .call { callee := .builtin .copy, args := #[d, s], argTypes := #[22, 22] }) (g : Nat) (ad : Addr) (sCap : Nat) (ps : List Int) (x : Int)
    (hd : a.eval d = .slice (some ⟨g, 1, none⟩) 15 15) (hs : a.eval s = .slice (some ad) ps.length sCap) (hg : Blk w g (A16 (x :: List.replicate 15 0)) 29) (hl : ps.length ≤ 15)
    (hsrc : ∀ j v, (ps.map (Value.int .u8))[j]? = some v → w.cell? (ad.add j) = some v)
    (h : wpList Try.prog ops Q rest (a.put o.dst (goInt ps.length)) (w.setRow g (A16 (x :: (ps ++ List.replicate (15 - ps.length) 0))))) : wpList Try.prog ops Q (o :: rest) a w := by
  refine wpList_copy_own hgd d s 22 22 ho 5 Try.underlying22 size5 g 1 15 15 ad ps.length sCap hd hs (A16 (x :: List.replicate 15 0)) 29 hg (ps.map (Value.int .u8)) (by rw [List.length_map]; exact (Nat.min_eq_left hl).symm) hsrc (by simp [A16]; omega) (by intro v hv; simp at hv; obtain ⟨z, _, rfl⟩ := hv; rfl) ?_
  have e := copyEq x ps 15
  rw [e, List.length_map]
  exact h
set_option maxHeartbeats 1600000 in
theorem fill_impl (b off cap : Nat) (ps : List Int) (m : Nat) (last : Bool) (w : World) (hp : bytesOk ps) (h0 : 0 < ps.length) (hl : ps.length ≤ 15) (hc : ps.length ≤ cap) (hcm : cap ≤ maxLen)
    (hcell : ∀ i, i < ps.length → w.cell? ⟨b, off + i, none⟩ = some (.int .u8 (ps.getD i 0))) (hm : m ≤ 1000000) :
   Calls Try.prog 53 #[.slice (some ⟨b, off, none⟩) ps.length cap, .int .i64 m, .bool last] w fun e w' => e = .returned (.agg (A16 (cellOf ps m last))) ∧ Below w.heap.size w w' := by
  unfold maxLen at hcm
  have hB := cellOf_B hp hl m last
  have hcs : ∀ W, Below w.heap.size w W → ∀ j v, (ps.map (Value.int .u8))[j]? = some v → W.cell? ((⟨b, off, none⟩ : Addr).add j) = some v := by
    intro W hW j v hv
    have hj : j < ps.length := by have := (List.getElem?_eq_some_iff.1 hv).1; simpa using this
    have h1 := hcell j hj
    have hadd : (⟨b, off, none⟩ : Addr).add j = ⟨b, off + j, none⟩ := by unfold Addr.add; split <;> simp_all
    rw [hadd, hW.cell (block_lt_of_cell h1), h1]
    simp [List.getElem?_eq_getElem hj] at hv ⊢
    exact hv
  have HCS : Hid _ := hcs
  clear hcs hcell
  have hs16 := A16_size hB
  have Z := Z16_B'
  have hb2 : ∀ X, Below w.heap.size w ((w.alloc (.cells (A16 (List.replicate 16 0)) 29)).alloc (.cells (A16 (X :: List.replicate 15 0)) 29)) := fun X => ((Below.refl _ _).alloc (Nat.le_refl _) _).alloc (by simp) _
  have HB2 : Hid _ := hb2
  clear hb2
  cases last with
  | false =>
    have hx : headOf ps.length m false = (ps.length : Int) + 16 * ((m : Int) % 8) := by simp [headOf]
    unfold cellOf at hB hs16 ⊢
    rw [hx] at hB hs16 ⊢
    clear hx
    have k0 : Blk (((w.alloc (.cells (A16 (List.replicate 16 0)) 29)).alloc (.cells (A16 (((ps.length : Int) + 16 * ((m : Int) % 8)) :: List.replicate 15 0)) 29)).setRow (w.heap.size + 1) (A16 (((ps.length : Int) + 16 * ((m : Int) % 8)) :: (ps ++ List.replicate (15 - ps.length) 0)))) w.heap.size (A16 (List.replicate 16 0)) 29 := ((Blk.newAt _ _ _ _ rfl).alloc _).rowOther _ _ (by omega)
    have k1 : Blk (((w.alloc (.cells (A16 (List.replicate 16 0)) 29)).alloc (.cells (A16 (((ps.length : Int) + 16 * ((m : Int) % 8)) :: List.replicate 15 0)) 29)).setRow (w.heap.size + 1) (A16 (((ps.length : Int) + 16 * ((m : Int) % 8)) :: (ps ++ List.replicate (15 - ps.length) 0)))) (w.heap.size + 1) (A16 (((ps.length : Int) + 16 * ((m : Int) % 8)) :: (ps ++ List.replicate (15 - ps.length) 0))) 29 := (Blk.newAt _ _ _ _ (by simp)).row _
    go_enter Try.func53, Try.ntmps53
    go_wp2_with (first | refine copy29 rfl (.tmp 21) (.tmp 22) rfl (w.heap.size + 1) ⟨b, off, none⟩ cap ps ((ps.length : Int) + 16 * ((m : Int) % 8)) rfl rfl (Blk.newAt _ _ _ _ (by simp)) hl (HCS.out _ (HB2.out _)) ?_ | refine ld29 rfl (.tmp 7) rfl (w.heap.size + 1) rfl 29 _ (0, 0) k1 hs16 ?_ | refine st29 rfl (.tmp 6) (.tmp 24) rfl w.heap.size rfl _ hB rfl 29 _ k0 (A16_size Z) ?_)
    exact bodyPost_ret (v := .agg (A16 (((ps.length : Int) + 16 * ((m : Int) % 8)) :: (ps ++ List.replicate (15 - ps.length) 0)))) (results_cell_row rfl _ _ _ 29 _ (0, 0) _ rfl (k0.row _) Try.underlying29 rfl (by rw [hs16]; exact size29)) rfl ⟨rfl, belowRow (belowRow (HB2.out _) _ (by omega) _) _ (Nat.le_refl _) _⟩
  | true =>
    have hx : headOf ps.length m true = (ps.length : Int) + 16 * ((m : Int) % 8) + 128 := by simp [headOf]
    unfold cellOf at hB hs16 ⊢
    rw [hx] at hB hs16 ⊢
    clear hx
    have k0 : Blk (((w.alloc (.cells (A16 (List.replicate 16 0)) 29)).alloc (.cells (A16 (((ps.length : Int) + 16 * ((m : Int) % 8) + 128) :: List.replicate 15 0)) 29)).setRow (w.heap.size + 1) (A16 (((ps.length : Int) + 16 * ((m : Int) % 8) + 128) :: (ps ++ List.replicate (15 - ps.length) 0)))) w.heap.size (A16 (List.replicate 16 0)) 29 := ((Blk.newAt _ _ _ _ rfl).alloc _).rowOther _ _ (by omega)
    have k1 : Blk (((w.alloc (.cells (A16 (List.replicate 16 0)) 29)).alloc (.cells (A16 (((ps.length : Int) + 16 * ((m : Int) % 8) + 128) :: List.replicate 15 0)) 29)).setRow (w.heap.size + 1) (A16 (((ps.length : Int) + 16 * ((m : Int) % 8) + 128) :: (ps ++ List.replicate (15 - ps.length) 0)))) (w.heap.size + 1) (A16 (((ps.length : Int) + 16 * ((m : Int) % 8) + 128) :: (ps ++ List.replicate (15 - ps.length) 0))) 29 := (Blk.newAt _ _ _ _ (by simp)).row _
    go_enter Try.func53, Try.ntmps53
    go_wp2_with (first | refine copy29 rfl (.tmp 21) (.tmp 22) rfl (w.heap.size + 1) ⟨b, off, none⟩ cap ps ((ps.length : Int) + 16 * ((m : Int) % 8) + 128) rfl rfl (Blk.newAt _ _ _ _ (by simp)) hl (HCS.out _ (HB2.out _)) ?_ | refine ld29 rfl (.tmp 7) rfl (w.heap.size + 1) rfl 29 _ (0, 0) k1 hs16 ?_ | refine st29 rfl (.tmp 6) (.tmp 24) rfl w.heap.size rfl _ hB rfl 29 _ k0 (A16_size Z) ?_)
    exact bodyPost_ret (v := .agg (A16 (((ps.length : Int) + 16 * ((m : Int) % 8) + 128) :: (ps ++ List.replicate (15 - ps.length) 0)))) (results_cell_row rfl _ _ _ 29 _ (0, 0) _ rfl (k0.row _) Try.underlying29 rfl (by rw [hs16]; exact size29)) rfl ⟨rfl, belowRow (belowRow (HB2.out _) _ (by omega) _) _ (Nat.le_refl _) _⟩
end Go.Proofs.Ytadhiddnjhjioaa
