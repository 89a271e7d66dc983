/- The model's desk in its box; no condition. -/
import Derived.Test.YtpmmgbinogokfaaDoI
namespace Go.Proofs.Ytpmmgbinogokfaa
open Go.RowKit Go.ChangeShapes Go.WideShapes Go.ChangeAt
set_option linter.unusedVariables false
set_option linter.unusedSimpArgs false
set_option maxRecDepth 8000
theorem Og.pre {α : Type} {c : α → List Value} {n : Nat} (hc : ∀ x, (c x).length = n) {E : TypeId} {base b m cap k : Nat} {w : World} {ls : List α} (h : Og n c E base w (.slice (some ⟨b, 0, none⟩) m cap) ls) (hm : ls.length = m) (hk : k ≤ m) : Og n c E base w (.slice (some ⟨b, 0, none⟩) k cap) (ls.take k) := by
  subst hm
  have hl : (ls.take k).length = k := by simp; omega
  rcases h.2 with ⟨e, -⟩ | ⟨b', cap', cur, e, hb, hg, hnc, hcm, hcs, ht⟩
  · cases e
  · cases e
    have hkn : k * n ≤ ls.length * n := Nat.mul_le_mul_right n hk
    refine ⟨by rw [fm_len hc], .inr ⟨b, cap, cur, by rw [hl], hb, hg, by omega, hcm, hcs, ?_⟩⟩
    rw [hl]
    have e1 : ls.flatMap c = (ls.take k).flatMap c ++ (ls.drop k).flatMap c := by rw [← List.flatMap_append, List.take_append_drop]
    have e2 : cur.toList.take (k * n) = (cur.toList.take (ls.length * n)).take (k * n) := by rw [List.take_take, Nat.min_eq_left hkn]
    have hl2 : ((ls.take k).flatMap c).length = k * n := by rw [fm_len hc, hl]
    rw [e2, ht, e1, List.take_append_of_le_length (by omega), List.take_of_length_le (by omega)]
/-- the k-th is cut out: the rest is moved up -/
theorem cutWt {ops : Array Oper} {rest : List Oper} {o : Oper} {a : Act} {w : World} {Q : Exit → Act → World → Prop} (hgd : o.guard = none) (s x : Operand)
    (ho : o.op = .call { callee := .builtin .append, args := #[s, x], argTypes := #[25, 25] }) (base b m cap k : Nat) (ls : List Wt) (hown : Og 4 wtC 74 base w (.slice (some ⟨b, 0, none⟩) m cap) ls) (hm : ls.length = m) (hk : k < m) (h20 : m ≤ 4194304)
    (hs : a.eval s = .slice (some ⟨b, 0, none⟩) k cap) (ad : Option Addr) (had : (if cap = k + 1 then some (⟨b, 0, none⟩ : Addr) else some ⟨b, (k + 1) * 4, none⟩) = ad) (hx : a.eval x = .slice ad (m - (k + 1)) (cap - (k + 1))) (hbase : base ≤ w.heap.size)
    (h : ∀ v' w', Og 4 wtC 74 base w' v' (ls.eraseIdx k) → w.grownBy w' (some b) → wpList Try.prog ops Q rest (a.put o.dst v') w') : wpList Try.prog ops Q (o :: rest) a w := by
  obtain ⟨i0, hi, hz0, hz1, hz2⟩ := info_parts infoWt
  have hpre := Og.pre wtC_len hown hm (Nat.le_of_lt hk)
  have hown' : w.ownsRow base 74 4 (.slice (some ⟨b, 0, none⟩) m cap) m (ls.flatMap wtC) := by have := hown; rw [Og, hm] at this; exact this
  have hcap : m ≤ cap := by
    rcases hown.2 with ⟨e, -⟩ | ⟨b', cap', cur, e, -, -, hnc, -⟩
    · cases e
    · cases e; omega
  have hx' : a.eval x = .slice (some (if cap = k + 1 then ⟨b, 0, none⟩ else ⟨b, (k + 1) * 4, none⟩)) (m - (k + 1)) (cap - (k + 1)) := by rw [hx, ← had]; split <;> rfl
  have hl1 : (ls.take k).length = k := by simp; omega
  have hl2 : (ls.drop (k + 1)).length = m - (k + 1) := by rw [List.length_drop, hm]
  have hpre' : w.ownsRow base 74 4 (.slice (some ⟨b, 0, none⟩) k cap) k ((ls.take k).flatMap wtC) := by have := hpre; rw [Og, hl1] at this; exact this
  refine wpList_append_own_at w hgd s x 25 ho base 74 i0 (.agg #[.int .i64 0, .int .i64 0, .int .i64 0, .int .i64 0]) 4 32 Try.underlying25 hi hz0 hz1 hz2 rfl (by decide) _ k ((ls.take k).flatMap wtC) hs hpre' _ (m - (k + 1)) (cap - (k + 1)) ((ls.drop (k + 1)).flatMap wtC) hx' (by rw [fm_len wtC_len, hl2]) ?_ wtC_one ?_ ?_ hbase ?_
  · intro j u hj
    have hjl : j < (m - (k + 1)) * 4 := by have := (List.getElem?_eq_some_iff.1 hj).1; rw [fm_len wtC_len, hl2] at this; exact this
    have e1 : ls.flatMap wtC = (ls.take (k + 1)).flatMap wtC ++ (ls.drop (k + 1)).flatMap wtC := by rw [← List.flatMap_append, List.take_append_drop]
    have hl3 : ((ls.take (k + 1)).flatMap wtC).length = (k + 1) * 4 := by rw [fm_len wtC_len]; simp; omega
    rw [if_neg (by omega), Addr.add_lit, World.ownsRow.cellAt hown' _ (by omega), e1, List.getElem?_append_right (by omega), hl3, Nat.add_sub_cancel_left]
    exact hj
  · unfold maxLen; omega
  · omega
  · intro v' w' r1 r2 r3 r4
    refine h v' w' ?_ r2
    have e2 : (ls.take k).flatMap wtC ++ (ls.drop (k + 1)).flatMap wtC = (ls.eraseIdx k).flatMap wtC := by rw [← List.flatMap_append, List.eraseIdx_eq_take_drop_succ]
    rw [Og, ← e2]
    have : (ls.eraseIdx k).length = k + (m - (k + 1)) := by rw [List.length_eraseIdx_of_lt (by omega), hm]; omega
    rw [this]; exact r1
/-- rows of other types lie in other blocks -/
theorem row_ne {B B' : Nat} {W : World} {e e' : TypeId} {s s' n n' : Nat} {v v' : Value} {xs xs' : List Value} (h : W.ownsRow B e s v n xs) (h' : W.ownsRow B' e' s' v' n' xs') (hne : e ≠ e') : v.ownBlock = none ∨ v.ownBlock ≠ v'.ownBlock := by
  rcases h.2 with ⟨h1, -⟩ | ⟨b, cap, cur, h1, -, h2, -⟩
  · rw [h1]; exact .inl rfl
  · rcases h'.2 with ⟨h3, -⟩ | ⟨b', cap', cur', h3, -, h4, -⟩
    · rw [h1, h3]; exact .inr (by simp [Value.ownBlock])
    · rw [h1, h3]; refine .inr fun e => ?_
      simp [Value.ownBlock] at e
      rw [e, h4] at h2
      cases h2; exact hne rfl
theorem row_blk {B : Nat} {W : World} {e t : TypeId} {s n P : Nat} {v : Value} {xs : List Value} {cs : Array Value} (h : W.ownsRow B e s v n xs) (h' : Blk W P cs t) (hne : e ≠ t) : v.ownBlock ≠ some P := by
  rcases h.2 with ⟨h1, -⟩ | ⟨b, cap, cur, h1, -, h2, -⟩
  · rw [h1]; simp [Value.ownBlock]
  · rw [h1]; intro e; simp [Value.ownBlock] at e
    rw [Blk, ← e, h2] at h'
    cases h'; exact hne rfl
/-- the model's desk in its box, its rows owned -/
structure Mb (B : Nat) (W : World) (P : Nat) (n g : Int) (va vq vc : Value) (gs : List Ag) (qs : List Wt) (cs : List Int) : Prop where
  blk : Blk W P (D4 n va vq g) 27
  ag : Og 3 agC 36 B W va gs
  qu : Og 4 wtC 74 B W vq qs
  ca : Ow .i64 3 B W vc cs
theorem Mb.below {B : Nat} {W W' : World} {P : Nat} {n g : Int} {va vq vc : Value} {gs : List Ag} {qs : List Wt} {cs : List Int} (h : Mb B W P n g va vq vc gs qs cs) (hb : Below W.heap.size W W') : Mb B W' P n g va vq vc gs qs cs :=
  ⟨h.blk.below hb h.blk.lt, h.ag.below hb, h.qu.below hb, h.ca.below hb⟩
theorem Mb.drew {B : Nat} {W : World} {P : Nat} {n g : Int} {va vq vc : Value} {gs : List Ag} {qs : List Wt} {cs : List Int} (h : Mb B W P n g va vq vc gs qs cs) : Mb B W.drew P n g va vq vc gs qs cs := h.below (Below.refl _ _).drew
theorem Mb.agb {B : Nat} {W : World} {P : Nat} {n g : Int} {va vq vc : Value} {gs : List Ag} {qs : List Wt} {cs : List Int} (h : Mb B W P n g va vq vc gs qs cs) {i : Nat} (hi : i < gs.length) : ∃ b cap, va = .slice (some ⟨b, 0, none⟩) gs.length cap ∧ b ≠ P ∧ B ≤ b ∧ b < W.heap.size := by
  have hn := row_blk h.ag h.blk (by decide)
  rcases h.ag.2 with ⟨-, h1⟩ | ⟨b, cap, cur, h1, h2, h3, h4, -⟩
  · omega
  · exact ⟨b, cap, h1, fun e => hn (by rw [h1]; simp [Value.ownBlock, e]), h2, Blk.lt h3⟩
theorem Mb.qub {B : Nat} {W : World} {P : Nat} {n g : Int} {va vq vc : Value} {gs : List Ag} {qs : List Wt} {cs : List Int} (h : Mb B W P n g va vq vc gs qs cs) {i : Nat} (hi : i < qs.length) : ∃ b cap, vq = .slice (some ⟨b, 0, none⟩) qs.length cap ∧ b ≠ P ∧ B ≤ b ∧ b < W.heap.size ∧ qs.length ≤ cap ∧ cap ≤ maxLen := by
  have hn := row_blk h.qu h.blk (by decide)
  rcases h.qu.2 with ⟨-, h1⟩ | ⟨b, cap, cur, h1, h2, h3, h4, h5, -⟩
  · omega
  · exact ⟨b, cap, h1, fun e => hn (by rw [h1]; simp [Value.ownBlock, e]), h2, Blk.lt h3, h4, h5⟩
/-- agents' cells written -/
theorem Mb.setAgent {B : Nat} {W W' : World} {P b : Nat} {n g : Int} {va vq vc : Value} {gs gs' : List Ag} {qs : List Wt} {cs : List Int} (h : Mb B W P n g va vq vc gs qs cs) (hb : va.ownBlock = some b) (hg : W.grownBy W' (some b)) (ho : Og 3 agC 36 B W' va gs') : Mb B W' P n g va vq vc gs' qs cs := by
  have h1 := row_blk h.ag h.blk (by decide)
  have h2 := row_ne h.qu h.ag (by decide)
  have h3 := row_ne h.ca h.ag (by decide)
  rw [hb] at h1 h2 h3
  exact ⟨by rw [Blk, hg.block P h.blk.lt (Ne.symm h1)]; exact h.blk, ho, World.ownsRow.kept h.qu hg h2, World.ownsRow.kept h.ca hg h3⟩
/-- another queue, and the box rewritten -/
theorem Mb.setQueue {B : Nat} {W W' : World} {P : Nat} {n g : Int} {va vq vc vq' : Value} {gs : List Ag} {qs qs' : List Wt} {cs : List Int} (h : Mb B W P n g va vq vc gs qs cs) (hg : W.grownBy W' vq.ownBlock) (ho : Og 4 wtC 74 B W' vq' qs') : Mb B (W'.setCell ⟨P, 2, none⟩ vq') P n g va vq' vc gs qs' cs := by
  have h1 := row_blk h.qu h.blk (by decide)
  have hb : Blk W' P (D4 n va vq g) 27 := by rw [Blk, hg.block P h.blk.lt (Ne.symm h1)]; exact h.blk
  have a1 := World.ownsRow.kept h.ag hg (row_ne h.ag h.qu (by decide))
  have a2 := World.ownsRow.kept h.ca hg (row_ne h.ca h.qu (by decide))
  have hs := grown_set' W' P 2 vq'
  exact ⟨hb.set 2 _, World.ownsRow.kept a1 hs (.inr (row_blk a1 hb (by decide))), World.ownsRow.kept ho hs (.inr (row_blk ho hb (by decide))), World.ownsRow.kept a2 hs (.inr (row_blk a2 hb (by decide)))⟩
theorem Mb.setBox {B : Nat} {W : World} {P : Nat} {n g : Int} {va vq vc : Value} {gs : List Ag} {qs : List Wt} {cs : List Int} (h : Mb B W P n g va vq vc gs qs cs) (i : Nat) (v : Value) (n' g' : Int) (hv : (D4 n va vq g).setIfInBounds i v = D4 n' va vq g') : Mb B (W.setCell ⟨P, i, none⟩ v) P n' g' va vq vc gs qs cs := by
  have hs := grown_set' W P i v
  exact ⟨hv ▸ h.blk.set i v, World.ownsRow.kept h.ag hs (.inr (row_blk h.ag h.blk (by decide))), World.ownsRow.kept h.qu hs (.inr (row_blk h.qu h.blk (by decide))), World.ownsRow.kept h.ca hs (.inr (row_blk h.ca h.blk (by decide)))⟩
/-- other calls -/
theorem Mb.setCalls {B : Nat} {W W' : World} {P : Nat} {n g : Int} {va vq vc vc' : Value} {gs : List Ag} {qs : List Wt} {cs cs' : List Int} (h : Mb B W P n g va vq vc gs qs cs) (hg : W.grownBy W' vc.ownBlock) (ho : Ow .i64 3 B W' vc' cs') : Mb B W' P n g va vq vc' gs qs cs' := by
  have h1 := row_blk h.ca h.blk (by decide)
  exact ⟨by rw [Blk, hg.block P h.blk.lt (Ne.symm h1)]; exact h.blk, World.ownsRow.kept h.ag hg (row_ne h.ag h.ca (by decide)), World.ownsRow.kept h.qu hg (row_ne h.qu h.ca (by decide)), ho⟩
theorem cmpW_neg (a b : Wt) : cmpW a b < 0 ↔ b.2.2.1 < a.2.2.1 ∨ b.2.2.1 = a.2.2.1 ∧ a.2.2.2 < b.2.2.2 := by
  unfold cmpW orI cmpI
  repeat' split
  all_goals omega
end Go.Proofs.Ytpmmgbinogokfaa
