/- The contract of the model's function that draws ops: some ops, in new memory, the cursor moved; no condition but that there are not too many. -/
import Derived.Test.YtcbeaimpmjljjaaDrawO
import Derived.Test.YtcbeaimpmjljjaaOver
namespace Go.Proofs.Ytcbeaimpmjljjaa
open Go.RowKit Go.ChangeShapes Go.WideShapes Go.ChangeAt
set_option linter.unusedVariables false
set_option linter.unusedSimpArgs false
set_option maxRecDepth 8000
/-- the cells of ops, three each -/
def tr : List (Int × Int × Int) → List Value
  | [] => []
  | o :: r => .int .i64 o.1 :: .int .i64 o.2.1 :: .int .i64 o.2.2 :: tr r
theorem tr_len : ∀ l : List (Int × Int × Int), (tr l).length = l.length * 3
  | [] => rfl
  | o :: r => by simp [tr, tr_len r]; omega
theorem tr_app : ∀ a b : List (Int × Int × Int), tr (a ++ b) = tr a ++ tr b
  | [], b => rfl
  | o :: r, b => by simp [tr, tr_app r b]
theorem tr_at : ∀ (l : List (Int × Int × Int)) (i : Nat) (h : i < l.length), (tr l)[i * 3]? = some (.int .i64 l[i].1) ∧ (tr l)[i * 3 + 1]? = some (.int .i64 l[i].2.1) ∧ (tr l)[i * 3 + 2]? = some (.int .i64 l[i].2.2)
  | o :: r, 0, _ => by simp [tr]
  | o :: r, i + 1, h => by
    have := tr_at r i (by simpa using h)
    rw [show (i + 1) * 3 = i * 3 + 3 by omega]
    simpa [tr] using this
/-- the slice v, among the blocks from base on, owns the ops -/
def Oo (base : Nat) (w : World) (v : Value) (l : List (Int × Int × Int)) : Prop := w.ownsRow base 35 3 v l.length (tr l)
theorem infoOp : (Try.prog.info? 35).map (fun i => (i.zero, i.size, i.bytes)) = some (some (.agg #[.int .i64 0, .int .i64 0, .int .i64 0]), 3, 24) := by kernel_rfl
set_option maxHeartbeats 3200000 in
theorem drawOps_c (g : Nat) (cv : Value) (zs : List Int) (n m : Int) (w : World) (h : Dr w g cv zs) (hn0 : -1000000 ≤ n) (hn : n ≤ 1000000) (hm : m ≤ 1000000) :
   Calls Try.prog 52 #[.pointer (some ⟨g, 0, none⟩), .int .i64 n, .int .i64 m] w fun e w' => ∃ v l, e = .returned v ∧ Oo w.heap.size w' v l ∧ (l.length = 0 ∨ (l.length : Int) ≤ m) ∧ Dr w' g cv zs ∧ w.grownBy w' (some g) := by
  have hgl := h.lt
  obtain ⟨i0, hi, hz0, hz1, hz2⟩ := info_parts infoOp
  have H0 : Hid (Dr w g cv zs) := h
  have kb : Below w.heap.size w (w.alloc (Obj.cells #[] 35)) := (Below.refl _ _).alloc (Nat.le_refl _) _
  have HD : Hid (Dr (w.alloc (Obj.cells #[] 35)) g cv zs) := h.below kb
  have HG : Hid (w.grownBy (w.alloc (Obj.cells #[] 35)) (some g)) := ⟨kb.os, kb.tape, kb.output, kb.size, fun j hj _ => kb.block j hj⟩
  have HO : Hid (Oo w.heap.size (w.alloc (Obj.cells #[] 35)) (.slice (some ⟨w.heap.size, 0, none⟩) 0 0) []) := World.ownsRow_lit w #[] 0 (Nat.le_refl _) (by simp) (by simp)
  clear h kb
  go_enter Try.func52, Try.ntmps52
  go_wp2
  go_loopw [7, 8] (fun v i wr => ∃ l : List (Int × Int × Int), (l.length = 0 ∨ (l.length : Int) ≤ m) ∧ i = .int .i64 (l.length : Nat) ∧ Hid (Oo w.heap.size wr v l) ∧ Hid (Dr wr g cv zs) ∧ Hid (w.grownBy wr (some g))) (fun _ i _ => (m - intOf i).toNat)
  case atStart => exact ⟨[], .inl rfl, rfl, HO.out, HD.out, HG.out⟩
  case round =>
    obtain ⟨l, hl, rfl, ho, hd, hg⟩ := hrel
    clear HD HG HO
    obtain ⟨av, cav, e, hv1, hv2, hv3⟩ := own_form ho.out
    subst e
    by_cases hlt : (l.length : Int) < m
    · have hs : w.heap.size ≤ wr.heap.size := hg.out.size
      go_wp2_with (fail)
      refine (drawOp_c g cv zs n _ hd.out hn0 hn).mono ?_
      rintro e w2 ⟨k, a, b, rfl, d2, g2⟩
      have hs2 := g2.size
      have HO2 : Hid ((w2.alloc (Obj.cells #[.int .i64 k, .int .i64 a, .int .i64 b] 35)).ownsRow w.heap.size 35 3 (.slice av l.length cav) l.length (tr l)) := World.ownsRow.alloc (World.ownsRow.kept ho.out g2 (by
        by_cases e : (Value.slice av l.length cav).ownBlock = some g
        · have := (World.ownsRow.lt ho.out g e).1; omega
        · exact .inr e)) _
      have HG2 : Hid (w.grownBy w2 (some g)) := grown_trans hg.out g2
      have HD2 : Hid (Dr w2 g cv zs) := d2
      clear ho hd hg d2 g2
      go_wp2_with (at_builtin; refine wpList_append_own_at _ rfl _ _ 27 rfl w.heap.size 35 i0 (.agg #[.int .i64 0, .int .i64 0, .int .i64 0]) 3 24 Try.underlying27 hi hz0 hz1 hz2 rfl (by decide) _ _ _ rfl HO2.out ⟨w2.heap.size, 0, none⟩ 1 1 [.int .i64 k, .int .i64 a, .int .i64 b] rfl rfl (World.news_of_block (Blk.newAt w2 w2.heap.size _ 35 rfl)) (by intro u hu; simp at hu; rcases hu with rfl | rfl | rfl <;> rfl) (by unfold maxLen; omega) (by omega) (by simp; omega) ?_)
      intro v' w3 ho3 hg3 hnil hat
      have HF : Hid (Oo w.heap.size w3 v' (l ++ [(k, a, b)]) ∧ Dr w3 g cv zs ∧ w.grownBy w3 (some g)) := by
        have bl : Below w.heap.size w2 w3 := ((Below.refl _ _).alloc (by omega) _).trans (grown_below hg3 (by simp; omega) (fun k e => (World.ownsRow.lt HO2.out k e).1))
        refine ⟨?_, H0.out.onto HD2.out HG2.out bl⟩
        rw [Oo, tr_app, List.length_append]; exact ho3
      clear ho3 hg3 hnil hat HO2 HG2 HD2
      go_wp2
      go_roundw
      case rel => exact ⟨l ++ [(k, a, b)], .inr (by simp; omega), by simp, HF.out.1, HF.out.2.1, HF.out.2.2⟩
      case measure => simp [intOf]; omega
    · go_wp2
      go_ret
      exact ⟨_, rfl, l, ho.out, by simpa using hl, hd.out, hg.out⟩
end Go.Proofs.Ytcbeaimpmjljjaa
