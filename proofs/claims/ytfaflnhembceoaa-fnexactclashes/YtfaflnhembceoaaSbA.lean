/- Subs: read, owned, copied; no condition. -/
import Derived.Test.YtfaflnhembceoaaTr3
namespace Go.Proofs.Ytfaflnhembceoaa
open Go.RowKit Go.ChangeShapes Go.WideShapes Go.ChangeAt
set_option linter.unusedVariables false
set_option linter.unusedSimpArgs false
set_option maxRecDepth 8000

abbrev Fts := List (Int × Int)
abbrev Sb := Bool × Bool × Fts
abbrev Sbs := List Sb
abbrev S3 (p q : Bool) (v : Value) : Array Value := #[.bool p, .bool q, v]
theorem sizeSub : (Try.prog.info? 35).map (·.size) = some 3 := by kernel_rfl
theorem infoSub : (Try.prog.info? 35).map (fun i => (i.zero, i.size, i.bytes)) = some (some (.agg #[.bool false, .bool false, .slice none 0 0]), 3, 32) := by kernel_rfl
theorem below_grown {w w' : World} (hb : Below w.heap.size w w') : w.grownBy w' none := ⟨hb.os, hb.tape, hb.output, hb.size, fun j hj _ => hb.block j hj⟩
set_option maxHeartbeats 800000 in
theorem toSub_c (p q : Bool) (v : Value) (ls : Fts) (w : World) (h : Rp mf mg w v ls) (hn : ls.length ≤ 1048576) :
   Calls Try.prog 57 #[.agg (S3 p q v)] w fun e w' => ∃ v', e = .returned (.agg (S3 p q v')) ∧ Op mf mg 37 w.heap.size w' v' ls ∧ Below w.heap.size w w' := by
  have hb : Below w.heap.size w (((w.alloc (Obj.cells (S3 p q v) 88)).alloc (Obj.cells (S3 false false (.slice none 0 0)) 35)).alloc (Obj.cells (S3 p q (.slice none 0 0)) 35)) := (((Below.refl _ _).alloc (Nat.le_refl _) _).alloc (by simp) _).alloc (by simp; omega) _
  have HB : Hid _ := hb
  have HH : Hid (Rp mf mg (((w.alloc (Obj.cells (S3 p q v) 88)).alloc (Obj.cells (S3 false false (.slice none 0 0)) 35)).alloc (Obj.cells (S3 p q (.slice none 0 0)) 35)) v ls) := h.below hb
  have k1 : Blk (((w.alloc (Obj.cells (S3 p q v) 88)).alloc (Obj.cells (S3 false false (.slice none 0 0)) 35)).alloc (Obj.cells (S3 p q (.slice none 0 0)) 35)) (w.heap.size + 1) (S3 false false (.slice none 0 0)) 35 := (Blk.newAt _ (w.heap.size + 1) _ 35 (by simp)).alloc _
  have k2 : Blk (((w.alloc (Obj.cells (S3 p q v) 88)).alloc (Obj.cells (S3 false false (.slice none 0 0)) 35)).alloc (Obj.cells (S3 p q (.slice none 0 0)) 35)) (w.heap.size + 1 + 1) (S3 p q (.slice none 0 0)) 35 := Blk.newAt _ (w.heap.size + 1 + 1) _ 35 (by simp)
  have K : Hid (Blk _ _ _ _ ∧ Blk _ _ _ _) := ⟨k1, k2⟩
  obtain ⟨a, cap, rfl, -⟩ := h
  clear hb k1 k2
  go_enter Try.func57, Try.ntmps57
  go_wp2_with (fail)
  refine (toFeatureS_c _ _ _ HH.out hn).mono ?_
  rintro e w2 ⟨v', rfl, ho, b2⟩
  have q1 := K.out.1.below b2 (by simp)
  have q2 := K.out.2.below b2 (by simp)
  have hbb := belowCall HB.out b2 HB.out.size
  obtain ⟨a', cap', rfl, -⟩ := ho.rd
  have hoff : ∀ k, k < w.heap.size + 3 → (Value.slice a' ls.length cap').ownBlock ≠ some k := fun k hk e => by
    have := (World.ownsRow.lt ho k e).1
    simp at this; omega
  have ho' : Op mf mg 37 w.heap.size w2 (.slice a' ls.length cap') ls := ho.mono (by simp; omega)
  have n1 := hoff (w.heap.size + 1) (by omega)
  have n2 := hoff (w.heap.size + 1 + 1) (by omega)
  have c0 := q2.cell 0
  have c1 := q2.cell 1
  have c2 := q2.cell 2
  have f0 := q2.frozen 0
  have f1 := q2.frozen 1
  have f2 := q2.frozen 2
  have d0 := q1.cell 0
  have d1 := q1.cell 1
  have d2 := q1.cell 2
  have e0 := q1.frozen 0
  have e1 := q1.frozen 1
  have e2 := q1.frozen 2
  simp at c0 c1 c2 d0 d1 d2
  have Q1 := (((q1.other ⟨w.heap.size + 1 + 1, 2, none⟩ (.slice a' ls.length cap') (by simp)).set 0 (.bool p)).set 1 (.bool q)).set 2 (.slice a' ls.length cap')
  have H1 : Hid _ := Q1
  have g1 := World.ownsRow.kept ho' (grown_set w2 (w.heap.size + 1 + 1) 2 (.slice a' ls.length cap')) (.inr n2)
  have g2 := World.ownsRow.kept g1 (grown_set _ (w.heap.size + 1) 0 (.bool p)) (.inr n1)
  have g2' := World.ownsRow.kept g2 (grown_set _ (w.heap.size + 1) 1 (.bool q)) (.inr n1)
  have g3 := World.ownsRow.kept g2' (grown_set _ (w.heap.size + 1) 2 (.slice a' ls.length cap')) (.inr n1)
  have G3 : Hid _ := g3
  have b3 : Below w.heap.size w ((((w2.setCell ⟨w.heap.size + 1 + 1, 2, none⟩ (.slice a' ls.length cap')).setCell ⟨w.heap.size + 1, 0, none⟩ (.bool p)).setCell ⟨w.heap.size + 1, 1, none⟩ (.bool q)).setCell ⟨w.heap.size + 1, 2, none⟩ (.slice a' ls.length cap')) := (((hbb.setCell (by dsimp only; omega) _).setCell (by dsimp only; omega) _).setCell (by dsimp only; omega) _).setCell (by dsimp only; omega) _
  have B3 : Hid _ := b3
  clear K HB HH q1 q2 Q1 g1 g2 g2' g3 b3 n1 n2 hoff ho ho' hbb b2
  go_wp2
  exact bodyPost_ret (v := .agg (S3 p q (.slice a' ls.length cap'))) (results_cell_row rfl _ _ _ 35 _ (0, 0) _ rfl H1.out Try.underlying35 rfl sizeSub) rfl ⟨_, rfl, G3.out, B3.out⟩
/-- the slice v reads as subs -/
def RdS (w : World) (v : Value) (cs : Sbs) : Prop :=
  ∃ lv : List V3, lv.length = cs.length ∧ Rq w v lv ∧ ∀ i (h : i < cs.length) (h' : i < lv.length), lv[i].1 = .bool cs[i].1 ∧ lv[i].2.1 = .bool cs[i].2.1 ∧ Rp mf mg w lv[i].2.2 cs[i].2.2
theorem RdS.below {w w' : World} {v : Value} {cs : Sbs} (h : RdS w v cs) (hb : Below w.heap.size w w') : RdS w' v cs := by
  obtain ⟨lv, h1, h2, h3⟩ := h
  exact ⟨lv, h1, h2.below hb, fun i hi hi' => ⟨(h3 i hi hi').1, (h3 i hi hi').2.1, (h3 i hi hi').2.2.below hb⟩⟩
/-- the features of subs lie in blocks of their own: none is another's, none that of the subs -/
def OwL (base : Nat) (w : World) (blk : Option Nat) (lv : List V3) (cs : Sbs) : Prop :=
  ∀ i (h : i < lv.length) (h' : i < cs.length), lv[i].1 = .bool cs[i].1 ∧ lv[i].2.1 = .bool cs[i].2.1 ∧ Op mf mg 37 base w lv[i].2.2 cs[i].2.2 ∧ (lv[i].2.2.ownBlock = none ∨ lv[i].2.2.ownBlock ≠ blk) ∧
    ∀ j (hj : j < lv.length), j < i → lv[i].2.2.ownBlock = none ∨ lv[i].2.2.ownBlock ≠ lv[j].2.2.ownBlock
/-- the slice v, among the blocks from base on, owns subs, and their features too -/
def OwS (base : Nat) (w : World) (v : Value) (cs : Sbs) : Prop :=
  ∃ lv : List V3, lv.length = cs.length ∧ Oq 35 base w v lv ∧ OwL base w v.ownBlock lv cs
theorem OwL.grown {base : Nat} {w w' : World} {blk row : Option Nat} {lv : List V3} {cs : Sbs} (h : OwL base w blk lv cs) (hg : w.grownBy w' row) (hr : row = none ∨ row = blk) : OwL base w' blk lv cs := by
  intro i h1 h2
  obtain ⟨e, e', o, n, d⟩ := h i h1 h2
  refine ⟨e, e', World.ownsRow.kept o hg ?_, n, d⟩
  rcases hr with rfl | rfl
  · cases lv[i].2.2.ownBlock <;> simp
  · exact n
theorem OwS.below {base : Nat} {w w' : World} {v : Value} {cs : Sbs} (h : OwS base w v cs) (hb : Below w.heap.size w w') : OwS base w' v cs := by
  obtain ⟨lv, h1, h2, h3⟩ := h
  exact ⟨lv, h1, h2.below hb, h3.grown (below_grown hb) (.inl rfl)⟩
theorem OwS.rd {base : Nat} {w : World} {v : Value} {cs : Sbs} (h : OwS base w v cs) : RdS w v cs := by
  obtain ⟨lv, h1, h2, h3⟩ := h
  exact ⟨lv, h1, h2.rd, fun i hi hi' => ⟨(h3 i hi' hi).1, (h3 i hi' hi).2.1, (h3 i hi' hi).2.2.1.rd⟩⟩
theorem app_set {α : Type} (lv : List α) (n : Nat) (z x : α) (h : lv.length < n) : (lv ++ List.replicate (n - lv.length) z).set lv.length x = (lv ++ [x]) ++ List.replicate (n - (lv ++ [x]).length) z := by
  rw [show n - lv.length = (n - (lv ++ [x]).length) + 1 by simp; omega, List.replicate_succ]
  simp [List.set_append]
abbrev zS : V3 := (Value.bool false, Value.bool false, Value.slice none 0 0)
set_option maxHeartbeats 1600000 in
theorem toSubS_c (v : Value) (cs : Sbs) (w : World) (h : RdS w v cs) (hn : cs.length ≤ 1048576) (hm : ∀ c ∈ cs, c.2.2.length ≤ 1048576) :
   Calls Try.prog 23 #[v] w fun e w' => ∃ v', e = .returned v' ∧ OwS w.heap.size w' v' cs ∧ Below w.heap.size w w' := by
  obtain ⟨rv, hrl, ⟨a, cap, rfl, h1, h2, h3⟩, hrc⟩ := h
  unfold maxLen at h2
  rw [hrl] at h1 ⊢
  obtain ⟨i0, hi, hz0, hz1, hz2⟩ := info_parts infoSub
  have HRC : Hid (∀ i (h : i < cs.length) (h' : i < rv.length), rv[i].1 = .bool cs[i].1 ∧ rv[i].2.1 = .bool cs[i].2.1 ∧ Rp mf mg w rv[i].2.2 cs[i].2.2) := hrc
  have HRL : Hid (rv.length = cs.length) := hrl
  clear hrc hrl
  go_enter Try.func23, Try.ntmps23
  go_wp2_with (at_make; refine wpList_make_full _ rfl _ _ 24 rfl w.heap.size 35 i0 (.agg #[.bool false, .bool false, .slice none 0 0]) 3 Try.underlying24 hi hz0 hz1 .i64 .i64 _ _ cs.length rfl rfl rfl rfl (by rw [hz2]; omega) (by unfold maxLen; omega) (Nat.le_refl _) ?_)
  intro w1 ho hg
  have hx : w1.ownsRow w.heap.size 35 3 (.slice (some ⟨w.heap.size, 0, none⟩) cs.length cs.length) cs.length (tq ([] ++ List.replicate (cs.length - 0) zS)) := by
    have e : tq ([] ++ List.replicate (cs.length - 0) zS) = (madeCells #[Value.bool false, .bool false, .slice none 0 0] (cs.length * 3)).toList := by rw [tq_replicate zS cs.length]; simp
    rw [e]; exact ho
  have hb : Below w.heap.size w w1 := grown_below hg (Nat.le_refl _) (by simp)
  have hsz : w.heap.size < w1.heap.size := (World.ownsRow.lt ho w.heap.size rfl).2
  clear hg ho
  go_wp2
  go_loopw [4] (fun i wr => ∃ lv : List V3, lv.length ≤ cs.length ∧ i = .int .i64 lv.length ∧ wr.ownsRow w.heap.size 35 3 (.slice (some ⟨w.heap.size, 0, none⟩) cs.length cs.length) cs.length (tq (lv ++ List.replicate (cs.length - lv.length) zS)) ∧ Hid (OwL w.heap.size wr (some w.heap.size) lv cs) ∧ Below w.heap.size w wr) (fun i _ => cs.length - (intOf i).toNat)
  case atStart => exact ⟨[], Nat.zero_le _, rfl, hx, fun i h => by simp at h, hb⟩
  case round =>
    obtain ⟨lv, hj, rfl, hw, hL, hbr⟩ := hrel
    clear hx hb hsz
    by_cases hlt : lv.length < cs.length
    · have hrj : lv.length < rv.length := by have h := HRL.out; omega
      rcases h3 with h3 | ⟨b, off, rfl, h4⟩
      · subst h3; simp at hrj
      have hc := h4 lv.length hrj
      have hE := HRC.out lv.length hlt hrj
      have hcb : b < w.heap.size := block_lt_of_cell hc.1
      have hc0 : wr.cell? ⟨b, off + lv.length * 3, none⟩ = some (.bool cs[lv.length].1) := by rw [hbr.cell hcb, ← hE.1]; exact hc.1
      have hc1 : wr.cell? ⟨b, off + lv.length * 3 + 1, none⟩ = some (.bool cs[lv.length].2.1) := by rw [hbr.cell hcb, ← hE.2.1]; exact hc.2.1
      have hc2 : wr.cell? ⟨b, off + lv.length * 3 + 2, none⟩ = some rv[lv.length].2.2 := by rw [hbr.cell hcb]; exact hc.2.2
      have hE2 := hE.2.2
      obtain ⟨a2, cap2, e2, -⟩ := hE.2.2
      have hR := hE2.below hbr
      rw [e2] at hc2 hR
      have HR : Hid (Rp mf mg wr (Value.slice a2 cs[lv.length].2.2.length cap2) cs[lv.length].2.2) := hR
      have hsz : w.heap.size < wr.heap.size := (World.ownsRow.lt hw w.heap.size rfl).2
      clear h4 hc hE hE2 hR HRC HRL e2
      go_wp2_with (fail)
      refine (toSub_c _ _ _ _ _ HR.out (hm _ (List.getElem_mem hlt))).mono ?_
      rintro e w2 ⟨v', rfl, ho, b2⟩
      obtain ⟨a3, cap3, rfl, -⟩ := ho.rd
      have hw2 : w2.ownsRow w.heap.size 35 3 (.slice (some ⟨w.heap.size, 0, none⟩) cs.length cs.length) cs.length (tq (lv ++ List.replicate (cs.length - lv.length) zS)) := World.ownsRow.kept (row := none) hw (below_grown b2) (by simp [Value.ownBlock])
      have hMl : (lv ++ List.replicate (cs.length - lv.length) zS).length = cs.length := by simp; omega
      have hO : Oq 35 w.heap.size w2 (.slice (some ⟨w.heap.size, 0, none⟩) (lv ++ List.replicate (cs.length - lv.length) zS).length cs.length) (lv ++ List.replicate (cs.length - lv.length) zS) := by rw [Oq, hMl]; exact hw2
      have hp := tq_at (lv ++ List.replicate (cs.length - lv.length) zS) lv.length (by omega)
      obtain ⟨y0, hd0⟩ : ∃ u, w2.cell? ⟨w.heap.size, lv.length * 3, none⟩ = some u := ⟨_, (hw2.cellAt (lv.length * 3) (by omega)).trans hp.1⟩
      obtain ⟨y1, hd1⟩ : ∃ u, w2.cell? ⟨w.heap.size, lv.length * 3 + 1, none⟩ = some u := ⟨_, (hw2.cellAt (lv.length * 3 + 1) (by omega)).trans hp.2.1⟩
      obtain ⟨y2, hd2⟩ : ∃ u, w2.cell? ⟨w.heap.size, lv.length * 3 + 2, none⟩ = some u := ⟨_, (hw2.cellAt (lv.length * 3 + 2) (by omega)).trans hp.2.2⟩
      have hf0 := hw2.frozenAt (lv.length * 3)
      have hf1 := hw2.frozenAt (lv.length * 3 + 1)
      have hf2 := hw2.frozenAt (lv.length * 3 + 2)
      have hS := own_setq hO lv.length (by omega) (Value.bool cs[lv.length].1, Value.bool cs[lv.length].2.1, Value.slice a3 cs[lv.length].2.2.length cap3)
      rw [Oq, List.length_set, hMl, app_set lv cs.length _ _ hlt] at hS
      have c2 := belowCall hbr b2 hbr.size
      have c3 : Below w.heap.size w (((w2.setCell ⟨w.heap.size, lv.length * 3, none⟩ (Value.bool cs[lv.length].1)).setCell ⟨w.heap.size, lv.length * 3 + 1, none⟩ (Value.bool cs[lv.length].2.1)).setCell ⟨w.heap.size, lv.length * 3 + 2, none⟩ (Value.slice a3 cs[lv.length].2.2.length cap3)) := ((c2.setCell (by exact Nat.le_refl _) _).setCell (by exact Nat.le_refl _) _).setCell (by exact Nat.le_refl _) _
      have gs : w2.grownBy (((w2.setCell ⟨w.heap.size, lv.length * 3, none⟩ (Value.bool cs[lv.length].1)).setCell ⟨w.heap.size, lv.length * 3 + 1, none⟩ (Value.bool cs[lv.length].2.1)).setCell ⟨w.heap.size, lv.length * 3 + 2, none⟩ (Value.slice a3 cs[lv.length].2.2.length cap3)) (some w.heap.size) := grown_trans (grown_trans (grown_set w2 _ _ _) (grown_set _ _ _ _)) (grown_set _ _ _ _)
      have L1 := (hL.out.grown (below_grown b2) (.inl rfl)).grown gs (.inr rfl)
      have hnb : ∀ k, (Value.slice a3 cs[lv.length].2.2.length cap3).ownBlock = some k → wr.heap.size ≤ k := fun k e => (World.ownsRow.lt ho k e).1
      have hne : (Value.slice a3 cs[lv.length].2.2.length cap3).ownBlock ≠ some w.heap.size := fun e => by have := hnb _ e; omega
      have L2 : OwL w.heap.size (((w2.setCell ⟨w.heap.size, lv.length * 3, none⟩ (Value.bool cs[lv.length].1)).setCell ⟨w.heap.size, lv.length * 3 + 1, none⟩ (Value.bool cs[lv.length].2.1)).setCell ⟨w.heap.size, lv.length * 3 + 2, none⟩ (Value.slice a3 cs[lv.length].2.2.length cap3)) (some w.heap.size) (lv ++ [(Value.bool cs[lv.length].1, Value.bool cs[lv.length].2.1, Value.slice a3 cs[lv.length].2.2.length cap3)]) cs := by
        intro i hi1 hi2
        by_cases hil : i < lv.length
        · obtain ⟨q1, q1', q2, q3, q4⟩ := L1 i hil hi2
          simp only [List.getElem_append_left hil]
          refine ⟨q1, q1', q2, q3, fun j hj hji => ?_⟩
          have hjl : j < lv.length := by omega
          simp only [List.getElem_append_left hjl]
          exact q4 j hjl hji
        · have hie : i = lv.length := by simp at hi1; omega
          subst hie
          simp only [List.getElem_append_right (Nat.le_refl _), Nat.sub_self, List.getElem_cons_zero]
          refine ⟨by trivial, by trivial, World.ownsRow.kept (ho.mono (by omega)) gs (.inr hne), .inr hne, fun j hj hji => ?_⟩
          simp only [List.getElem_append_left hji]
          cases hv : (Value.slice a3 cs[lv.length].2.2.length cap3).ownBlock with
          | none => exact .inl rfl
          | some k =>
            refine .inr fun e => ?_
            have u1 := hnb k hv
            have u2 := (World.ownsRow.lt (hL.out j hji (by omega)).2.2.1 k e.symm).2
            omega
      have HS : Hid _ := hS
      have HC : Hid _ := c3
      have HL2 : Hid _ := L2
      clear hw hbr hw2 c2 b2 hO hS c3 hp hMl gs L1 L2 hnb hne ho hL HR
      go_wp2
      go_roundw
      case rel => exact ⟨_, by simp; omega, by simp, HS.out, HL2.out, HC.out⟩
      case measure => simp [intOf]; omega
    · have hje : lv.length = cs.length := by omega
      have hw' : Oq 35 w.heap.size wr (.slice (some ⟨w.heap.size, 0, none⟩) cs.length cs.length) lv := by
        rw [Oq, hje]; simpa [hje] using hw
      have HW : Hid _ := hw'
      have HJ : Hid (lv.length = cs.length) := hje
      have hneb : ((lv.length : Int) < (cs.length : Int)) = False := by simp; omega
      clear hw hw' hje h3 HRC HRL
      go_wp2
      go_ret
      exact ⟨_, rfl, ⟨lv, HJ.out, HW.out, hL.out⟩, hbr⟩
end Go.Proofs.Ytfaflnhembceoaa
