/- The laws' marks of fabrics, and what looks for them; no condition. -/
import Derived.Test.YtljejjfhlpjlfaaTLw
namespace Go.Proofs.Ytljejjfhlpjlfaa
open Go.RowKit Go.ChangeShapes Go.WideShapes Go.ChangeAt
set_option linter.unusedVariables false
set_option linter.unusedSimpArgs false
set_option maxRecDepth 8000
/-- nothing was written but between lo and hi, and new blocks -/
structure Mid (lo hi : Nat) (w w' : World) : Prop where
  os : w'.os = w.os
  tape : w'.tape = w.tape
  output : w'.output = w.output
  size : w.heap.size ≤ w'.heap.size
  block : ∀ k, k < w.heap.size → (k < lo ∨ hi ≤ k) → w'.heap[k]? = w.heap[k]?
theorem Mid.refl (lo hi : Nat) (w : World) : Mid lo hi w w := ⟨rfl, rfl, rfl, Nat.le_refl _, fun _ _ _ => rfl⟩
theorem Mid.trans {lo hi : Nat} {a b c : World} (h : Mid lo hi a b) (h' : Mid lo hi b c) : Mid lo hi a c :=
  ⟨h'.os.trans h.os, h'.tape.trans h.tape, h'.output.trans h.output, Nat.le_trans h.size h'.size, fun k hk ho => (h'.block k (Nat.lt_of_lt_of_le hk h.size) ho).trans (h.block k hk ho)⟩
theorem Mid.ofGrown {lo hi : Nat} {w w' : World} {row : Option Nat} (h : w.grownBy w' row) (hr : ∀ k, row = some k → lo ≤ k ∧ k < hi) : Mid lo hi w w' :=
  ⟨h.os, h.tape, h.output, h.size, fun k hk ho => h.block k hk (fun e => by have := hr k e.symm; omega)⟩
theorem Mid.ofBelow {lo hi : Nat} {w w' : World} (h : Below w.heap.size w w') : Mid lo hi w w' := ⟨h.os, h.tape, h.output, h.size, fun k hk _ => h.block k hk⟩
theorem Mid.below {lo hi : Nat} {w w' : World} (h : Mid lo hi w w') (hlo : lo ≤ w.heap.size) : Below lo w w' := ⟨h.os, h.tape, h.output, h.size, fun k hk => h.block k (by omega) (.inl hk)⟩
theorem Mid.mono {lo hi lo' hi' : Nat} {w w' : World} (h : Mid lo hi w w') (h1 : lo' ≤ lo) (h2 : hi ≤ hi') : Mid lo' hi' w w' := ⟨h.os, h.tape, h.output, h.size, fun k hk ho => h.block k hk (by omega)⟩
/-- what lies outside is kept -/
theorem ownsRow_mid {lo hi base : Nat} {w w' : World} {e : TypeId} {s : Nat} {v : Value} {n : Nat} {xs : List Value} (h : w.ownsRow base e s v n xs) (hm : Mid lo hi w w') (ho : ∀ k, v.ownBlock = some k → k < lo ∨ hi ≤ k) : w'.ownsRow base e s v n xs := by
  refine ⟨h.1, ?_⟩
  rcases h.2 with h2 | ⟨g, cap, cur, hv, hg, hb, r⟩
  · exact .inl h2
  · subst hv
    exact .inr ⟨g, cap, cur, rfl, hg, by rw [hm.block g (Blk.lt hb) (ho g rfl)]; exact hb, r⟩
theorem Blk.mid {lo hi : Nat} {w w' : World} {g : Nat} {cs : Array Value} {t : TypeId} (h : Blk w g cs t) (hm : Mid lo hi w w') (ho : g < lo ∨ hi ≤ g) : Blk w' g cs t := by
  rw [Blk, hm.block g h.lt ho]; exact h
/-- a fabric's paths, owned from base on, below hi -/
def OtH (base hi : Nat) (w : World) (v : Value) (ls : Tri) : Prop := Ot 66 base w v ls ∧ ∀ k, v.ownBlock = some k → k < hi
theorem Ot.toH {base : Nat} {w : World} {v : Value} {ls : Tri} (h : Ot 66 base w v ls) : OtH base w.heap.size w v ls := ⟨h, fun k e => (World.ownsRow.lt h k e).2⟩
theorem OtH.below {base hi : Nat} {w w' : World} {v : Value} {ls : Tri} (h : OtH base hi w v ls) (hb : Below w.heap.size w w') : OtH base hi w' v ls := ⟨h.1.below hb, h.2⟩
theorem OtH.mid {base hi lo' hi' : Nat} {w w' : World} {v : Value} {ls : Tri} (h : OtH base hi w v ls) (hm : Mid lo' hi' w w') (ho : hi ≤ lo' ∨ hi' ≤ base) : OtH base hi w' v ls :=
  ⟨ownsRow_mid h.1 hm (fun k e => by have := (World.ownsRow.lt h.1 k e).1; have := h.2 k e; omega), h.2⟩
theorem OtH.rd {base hi : Nat} {w : World} {v : Value} {ls : Tri} (h : OtH base hi w v ls) : Rt w v ls := h.1.rd
/-- the paths that are marked from q on -/
def mkT (q : Int) (n : Nat) : Tri := (List.range n).map fun i : Nat => (q + 3 * (i : Int), q + 3 * (i : Int) + 1, q + 3 * (i : Int) + 2)
theorem mkT_len (q : Int) (n : Nat) : (mkT q n).length = n := by simp [mkT]
theorem mkT_succ (q : Int) (n : Nat) : mkT q (n + 1) = mkT q n ++ [(q + 3 * (n : Int), q + 3 * (n : Int) + 1, q + 3 * (n : Int) + 2)] := by simp [mkT, List.range_succ]
theorem mkT_at (q : Int) (n i : Nat) (h : i < (mkT q n).length) : (mkT q n)[i] = (q + 3 * (i : Int), q + 3 * (i : Int) + 1, q + 3 * (i : Int) + 2) := by simp [mkT]
theorem mkT_set (q : Int) (ls : Tri) (j : Nat) (h : j < ls.length) : (mkT q j ++ ls.drop j).set j (q + 3 * (j : Int), q + 3 * (j : Int) + 1, q + 3 * (j : Int) + 2) = mkT q (j + 1) ++ ls.drop (j + 1) := by
  rw [List.drop_eq_getElem_cons h, mkT_succ, List.set_append]
  simp only [mkT_len, Nat.lt_irrefl, if_false, Nat.sub_self, List.set_cons_zero, List.append_assoc, List.cons_append, List.nil_append]
set_option maxHeartbeats 1600000 in
theorem markSigS_c (v : Value) (ls : Tri) (q : Int) (base : Nat) (w : World) (h : Ot 66 base w v ls) (h0 : 0 ≤ q) (hq : q + 3 * ls.length ≤ 1152921504606846976) :
   Calls Try.prog 51 #[v, .int .i64 q] w fun e w' => e = .returned (.int .i64 (q + 3 * ls.length)) ∧ Ot 66 base w' v (mkT q ls.length) ∧ w.grownBy w' v.ownBlock := by
  have hh := h
  rcases h.2 with ⟨rfl, hn⟩ | ⟨g, cap, cur, rfl, hb, hg, hnc, hcm, hcs, ht⟩
  · obtain rfl : ls = [] := List.eq_nil_of_length_eq_zero hn
    clear hn h
    go_enter Try.func51, Try.ntmps51
    go_wp2
    refine wp_loop_rounds 1 ?_
    rw [rounds_succ]
    go_wp2
    go_ret
    exact ⟨by simp, by simpa [mkT] using hh, grown_refl _ _⟩
  · clear h hg hcs ht
    unfold maxLen at hcm
    go_enter Try.func51, Try.ntmps51
    go_wp2
    go_loopw [1, 5] (fun c i wr => ∃ j : Nat, j ≤ ls.length ∧ i = .int .i64 j ∧ c = .int .i64 (q + 3 * j) ∧ Hid (Ot 66 base wr (.slice (some ⟨g, 0, none⟩) ls.length cap) (mkT q j ++ ls.drop j)) ∧ Hid (w.grownBy wr (some g))) (fun _ i _ => ls.length - (intOf i).toNat)
    case atStart => exact ⟨0, Nat.zero_le _, rfl, by simp, (by simpa [mkT] using hh : Ot 66 base w (.slice (some ⟨g, 0, none⟩) ls.length cap) (mkT q 0 ++ ls.drop 0)), grown_refl _ _⟩
    case round =>
      obtain ⟨j, hj, rfl, rfl, hw, hbr⟩ := hrel
      by_cases hlt : j < ls.length
      · have hlen : (mkT q j ++ ls.drop j).length = ls.length := by simp [mkT_len]; omega
        have hO : Ot 66 base wr (.slice (some ⟨g, 0, none⟩) (mkT q j ++ ls.drop j).length cap) (mkT q j ++ ls.drop j) := by rw [hlen]; exact hw.out
        have hp := tr_at (mkT q j ++ ls.drop j) j (by omega)
        obtain ⟨y0, d0⟩ : ∃ u, wr.cell? ⟨g, j * 3, none⟩ = some u := ⟨_, (World.ownsRow.cellAt hO (j * 3) (by omega)).trans hp.1⟩
        obtain ⟨y1, d1⟩ : ∃ u, wr.cell? ⟨g, j * 3 + 1, none⟩ = some u := ⟨_, (World.ownsRow.cellAt hO (j * 3 + 1) (by omega)).trans hp.2.1⟩
        obtain ⟨y2, d2⟩ : ∃ u, wr.cell? ⟨g, j * 3 + 2, none⟩ = some u := ⟨_, (World.ownsRow.cellAt hO (j * 3 + 2) (by omega)).trans hp.2.2⟩
        have f0 := World.ownsRow.frozenAt hO (j * 3)
        have f1 := World.ownsRow.frozenAt hO (j * 3 + 1)
        have f2 := World.ownsRow.frozenAt hO (j * 3 + 2)
        have hS := own_set3 hO j (by omega) (q + 3 * (j : Int), q + 3 * (j : Int) + 1, q + 3 * (j : Int) + 2)
        rw [mkT_set q ls j hlt, hlen] at hS
        have HS : Hid (Ot 66 base (((wr.setCell ⟨g, j * 3, none⟩ (.int .i64 (q + 3 * (j : Int)))).setCell ⟨g, j * 3 + 1, none⟩ (.int .i64 (q + 3 * (j : Int) + 1))).setCell ⟨g, j * 3 + 2, none⟩ (.int .i64 (q + 3 * (j : Int) + 2))) (.slice (some ⟨g, 0, none⟩) ls.length cap) (mkT q (j + 1) ++ ls.drop (j + 1))) := hS
        have HG : Hid (w.grownBy (((wr.setCell ⟨g, j * 3, none⟩ (.int .i64 (q + 3 * (j : Int)))).setCell ⟨g, j * 3 + 1, none⟩ (.int .i64 (q + 3 * (j : Int) + 1))).setCell ⟨g, j * 3 + 2, none⟩ (.int .i64 (q + 3 * (j : Int) + 2))) (some g)) := grown_trans (grown_trans (grown_trans hbr.out (grown_set _ _ _ _)) (grown_set _ _ _ _)) (grown_set _ _ _ _)
        clear hO hp hS hw hbr hh
        go_wp2
        have e2 : q + 3 * (j : Int) + 1 + 1 = q + 3 * (j : Int) + 2 := by omega
        try rw [e2]
        go_roundw
        case rel => exact ⟨j + 1, by omega, by go_num, by go_num, HS.out, HG.out⟩
        case measure => simp [intOf]; omega
      · obtain rfl : j = ls.length := by omega
        clear hh
        go_wp2
        go_ret
        exact ⟨rfl, by have := hw.out; simpa using this, hbr.out⟩
set_option maxHeartbeats 1600000 in
theorem heldSigS_c (v : Value) (q : Int) (n : Nat) (w : World) (h : Rt w v (mkT q n)) (h0 : 0 ≤ q) (hq : q + 3 * n ≤ 1152921504606846976) :
   Calls Try.prog 52 #[v, .int .i64 q] w fun e w' => e = .returned (.int .i64 (q + 3 * n)) ∧ Below w.heap.size w w' := by
  obtain ⟨a, cap, rfl, h1, h2, h3⟩ := h
  rw [mkT_len] at h1
  rw [mkT_len]
  unfold maxLen at h2
  go_enter Try.func52, Try.ntmps52
  go_wp2
  go_loopw [1, 5] (fun c i wr => ∃ j : Nat, j ≤ n ∧ i = .int .i64 j ∧ c = .int .i64 (q + 3 * j) ∧ Below w.heap.size w wr) (fun _ i _ => n - (intOf i).toNat)
  case atStart => exact ⟨0, Nat.zero_le _, rfl, by simp, Below.refl _ _⟩
  case round =>
    obtain ⟨j, hj, rfl, rfl, hbr⟩ := hrel
    by_cases hlt : j < n
    · rcases h3 with h3 | ⟨b, off, rfl, h4⟩
      · have := congrArg List.length h3; rw [mkT_len] at this; simp at this; omega
      have hc := h4 j (by rw [mkT_len]; exact hlt)
      rw [mkT_at] at hc
      have hcb : b < w.heap.size := block_lt_of_cell hc.1
      have c0 := (hbr.cell (p := ⟨b, off + j * 3, none⟩) hcb).trans hc.1
      have c1 := (hbr.cell (p := ⟨b, off + j * 3 + 1, none⟩) hcb).trans hc.2.1
      have c2 := (hbr.cell (p := ⟨b, off + j * 3 + 2, none⟩) hcb).trans hc.2.2
      dsimp only at c0 c1 c2
      have e0 : (q + 3 * (j : Int) != q + 3 * (j : Int)) = false := by simp
      have e1 : (q + 3 * (j : Int) + 1 != q + 3 * (j : Int) + 1) = false := by simp
      have e2 : (q + 3 * (j : Int) + 2 != q + 3 * (j : Int) + 1 + 1) = false := by simp; omega
      clear h4 hc
      go_wp2
      go_roundw
      case rel => exact ⟨j + 1, by omega, by go_num, by go_num, hbr⟩
      case measure => simp [intOf]; omega
    · obtain rfl : j = n := by omega
      clear h3
      go_wp2
      go_ret
      exact ⟨rfl, hbr⟩
theorem markDuo_c (s c s' c' : Int) (v : Value) (ls : Tri) (q : Int) (base hi : Nat) (w : World) (h : OtH base hi w v ls) (h0 : 0 ≤ q) (hq : q + 3 * ls.length ≤ 1152921504606846976) :
   Calls Try.prog 26 #[.agg (D5 s c s' c' v), .int .i64 q] w fun e w' => e = .returned (.int .i64 (q + 3 * ls.length)) ∧ OtH base hi w' v (mkT q ls.length) ∧ Mid base hi w w' := by
  have bel : Below w.heap.size w (w.alloc (Obj.cells (D5 s c s' c' v) 31)) := (Below.refl _ _).alloc (Nat.le_refl _) _
  have HM : Hid (Calls Try.prog 51 #[v, .int .i64 q] (w.alloc (Obj.cells (D5 s c s' c' v) 31)) fun e w' => e = .returned (.int .i64 (q + 3 * ls.length)) ∧ Ot 66 base w' v (mkT q ls.length) ∧ (w.alloc (Obj.cells (D5 s c s' c' v) 31)).grownBy w' v.ownBlock) := markSigS_c v ls q base _ (h.1.below bel) h0 hq
  have HB : Hid (Mid base hi w (w.alloc (Obj.cells (D5 s c s' c' v) 31))) := Mid.ofBelow bel
  have HH : Hid (∀ k, v.ownBlock = some k → base ≤ k ∧ k < hi) := fun k e => ⟨(World.ownsRow.lt h.1 k e).1, h.2 k e⟩
  obtain ⟨a, cap, rfl, -⟩ := own_form h.1
  clear bel h
  go_enter Try.func26, Try.ntmps26
  go_wp2_with (fail)
  refine HM.out.mono ?_
  rintro e w2 ⟨rfl, o2, m2⟩
  have H2 : Hid (OtH base hi w2 (.slice a ls.length cap) (mkT q ls.length) ∧ Mid base hi w w2) := ⟨⟨o2, fun k e => (HH.out k e).2⟩, HB.out.trans (Mid.ofGrown m2 HH.out)⟩
  clear o2 m2
  go_wp2
  go_ret
  exact ⟨rfl, H2.out.1, H2.out.2⟩
theorem heldDuo_c (s c s' c' : Int) (v : Value) (q : Int) (n : Nat) (w : World) (h : Rt w v (mkT q n)) (h0 : 0 ≤ q) (hq : q + 3 * n ≤ 1152921504606846976) :
   Calls Try.prog 27 #[.agg (D5 s c s' c' v), .int .i64 q] w fun e w' => e = .returned (.int .i64 (q + 3 * n)) ∧ Below w.heap.size w w' := by
  have bel : Below w.heap.size w (w.alloc (Obj.cells (D5 s c s' c' v) 31)) := (Below.refl _ _).alloc (Nat.le_refl _) _
  have HM : Hid (Calls Try.prog 52 #[v, .int .i64 q] (w.alloc (Obj.cells (D5 s c s' c' v) 31)) fun e w' => e = .returned (.int .i64 (q + 3 * n)) ∧ Below (w.alloc (Obj.cells (D5 s c s' c' v) 31)).heap.size (w.alloc (Obj.cells (D5 s c s' c' v) 31)) w') := heldSigS_c v q n _ (h.below bel) h0 hq
  have HB : Hid (Below w.heap.size w (w.alloc (Obj.cells (D5 s c s' c' v) 31))) := bel
  obtain ⟨a, cap, rfl, -⟩ := h
  clear bel
  go_enter Try.func27, Try.ntmps27
  go_wp2_with (fail)
  refine HM.out.mono ?_
  rintro e w2 ⟨rfl, b2⟩
  have H2 : Hid (Below w.heap.size w w2) := belowCall HB.out b2 HB.out.size
  clear b2
  go_wp2
  go_ret
  exact ⟨rfl, H2.out⟩
end Go.Proofs.Ytljejjfhlpjlfaa
