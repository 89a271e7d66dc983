/- The model's desk in its box; no condition. -/
import Derived.Test.YtpmmgbinogokfaaDoI
namespace Go.Proofs.Ytpmmgbinogokfaa
open Go.RowKit Go.ChangeShapes Go.WideShapes Go.ChangeAt
set_option linter.unusedVariables false
set_option linter.unusedSimpArgs false
set_option maxRecDepth 8000
theorem Og.pre {α : Type} {c : α → List Value} {n : Nat} (hc : ∀ x, (c x).length = n) {E : TypeId} {base b m cap k : Nat} {w : World} {ls : List α} (h : Og n c E base w (.slice (some ⟨b, 0, none⟩) m cap) ls) (hm : ls.length = m) (hk : k ≤ m) : Og n c E base w (.slice (some ⟨b, 0, none⟩) k cap) (ls.take k) := by
  subst hm
  have hl : (ls.take k).length = k := by simp; omega
  rcases h.2 with ⟨e, -⟩ | ⟨b', cap', cur, e, hb, hg, hnc, hcm, hcs, ht⟩
  · cases e
  · cases e
    have hkn : k * n ≤ ls.length * n := Nat.mul_le_mul_right n hk
    refine ⟨by rw [fm_len hc], .inr ⟨b, cap, cur, by rw [hl], hb, hg, by omega, hcm, hcs, ?_⟩⟩
    rw [hl]
    have e1 : ls.flatMap c = (ls.take k).flatMap c ++ (ls.drop k).flatMap c := by rw [← List.flatMap_append, List.take_append_drop]
    have e2 : cur.toList.take (k * n) = (cur.toList.take (ls.length * n)).take (k * n) := by rw [List.take_take, Nat.min_eq_left hkn]
    have hl2 : ((ls.take k).flatMap c).length = k * n := by rw [fm_len hc, hl]
    rw [e2, ht, e1, List.take_append_of_le_length (by omega), List.take_of_length_le (by omega)]
/-- the k-th is cut out: the rest is moved up -/
theorem cutWt {ops : Array Oper} {rest : List Oper} {o : Oper} {a : Act} {w : World} {Q : Exit → Act → World → Prop} (hgd : o.guard = none) (s x : Operand)
    (ho : o.op = .call { callee := .builtin .append, args := #[s, x], argTypes := #[25, 25] }) (base b m cap k : Nat) (ls : List Wt) (hown : Og 4 wtC 74 base w (.slice (some ⟨b, 0, none⟩) m cap) ls) (hm : ls.length = m) (hk : k < m) (h20 : m ≤ 4194304)
    (hs : a.eval s = .slice (some ⟨b, 0, none⟩) k cap) (ad : Option Addr) (had : (if cap = k + 1 then some (⟨b, 0, none⟩ : Addr) else some ⟨b, (k + 1) * 4, none⟩) = ad) (hx : a.eval x = .slice ad (m - (k + 1)) (cap - (k + 1))) (hbase : base ≤ w.heap.size)
    (h : ∀ v' w', Og 4 wtC 74 base w' v' (ls.eraseIdx k) → w.grownBy w' (some b) → wpList Try.prog ops Q rest (a.put o.dst v') w') : wpList Try.prog ops Q (o :: rest) a w := by
  obtain ⟨i0, hi, hz0, hz1, hz2⟩ := info_parts infoWt
  have hpre := Og.pre wtC_len hown hm (Nat.le_of_lt hk)
  have hown' : w.ownsRow base 74 4 (.slice (some ⟨b, 0, none⟩) m cap) m (ls.flatMap wtC) := by have := hown; rw [Og, hm] at this; exact this
  have hcap : m ≤ cap := by
    rcases hown.2 with ⟨e, -⟩ | ⟨b', cap', cur, e, -, -, hnc, -⟩
    · cases e
    · cases e; omega
  have hx' : a.eval x = .slice (some (if cap = k + 1 then ⟨b, 0, none⟩ else ⟨b, (k + 1) * 4, none⟩)) (m - (k + 1)) (cap - (k + 1)) := by rw [hx, ← had]; split <;> rfl
  have hl1 : (ls.take k).length = k := by simp; omega
  have hl2 : (ls.drop (k + 1)).length = m - (k + 1) := by rw [List.length_drop, hm]
  have hpre' : w.ownsRow base 74 4 (.slice (some ⟨b, 0, none⟩) k cap) k ((ls.take k).flatMap wtC) := by have := hpre; rw [Og, hl1] at this; exact this
  refine wpList_append_own_at w hgd s x 25 ho base 74 i0 (.agg #[.int .i64 0, .int .i64 0, .int .i64 0, .int .i64 0]) 4 32 Try.underlying25 hi hz0 hz1 hz2 rfl (by decide) _ k ((ls.take k).flatMap wtC) hs hpre' _ (m - (k + 1)) (cap - (k + 1)) ((ls.drop (k + 1)).flatMap wtC) hx' (by rw [fm_len wtC_len, hl2]) ?_ wtC_one ?_ ?_ hbase ?_
  · intro j u hj
    have hjl : j < (m - (k + 1)) * 4 := by have := (List.getElem?_eq_some_iff.1 hj).1; rw [fm_len wtC_len, hl2] at this; exact this
    have e1 : ls.flatMap wtC = (ls.take (k + 1)).flatMap wtC ++ (ls.drop (k + 1)).flatMap wtC := by rw [← List.flatMap_append, List.take_append_drop]
    have hl3 : ((ls.take (k + 1)).flatMap wtC).length = (k + 1) * 4 := by rw [fm_len wtC_len]; simp; omega
    rw [if_neg (by omega), Addr.add_lit, World.ownsRow.cellAt hown' _ (by omega), e1, List.getElem?_append_right (by omega), hl3, Nat.add_sub_cancel_left]
    exact hj
  · unfold maxLen; omega
  · omega
  · intro v' w' r1 r2 r3 r4
    refine h v' w' ?_ r2
    have e2 : (ls.take k).flatMap wtC ++ (ls.drop (k + 1)).flatMap wtC = (ls.eraseIdx k).flatMap wtC := by rw [← List.flatMap_append, List.eraseIdx_eq_take_drop_succ]
    rw [Og, ← e2]
    have : (ls.eraseIdx k).length = k + (m - (k + 1)) := by rw [List.length_eraseIdx_of_lt (by omega), hm]; omega
    rw [this]; exact r1
/-- rows of other types lie in other blocks -/
theorem row_ne {B B' : Nat} {W : World} {e e' : TypeId} {s s' n n' : Nat} {v v' : Value} {xs xs' : List Value} (h : W.ownsRow B e s v n xs) (h' : W.ownsRow B' e' s' v' n' xs') (hne : e ≠ e') : v.ownBlock = none ∨ v.ownBlock ≠ v'.ownBlock := by
  rcases h.2 with ⟨h1, -⟩ | ⟨b, cap, cur, h1, -, h2, -⟩
  · rw [h1]; exact .inl rfl
  · rcases h'.2 with ⟨h3, -⟩ | ⟨b', cap', cur', h3, -, h4, -⟩
    · rw [h1, h3]; exact .inr (by simp [Value.ownBlock])
    · rw [h1, h3]; refine .inr fun e => ?_
      simp [Value.ownBlock] at e
      rw [e, h4] at h2
      cases h2; exact hne rfl
theorem row_blk {B : Nat} {W : World} {e t : TypeId} {s n P : Nat} {v : Value} {xs : List Value} {cs : Array Value} (h : W.ownsRow B e s v n xs) (h' : Blk W P cs t) (hne : e ≠ t) : v.ownBlock ≠ some P := by
  rcases h.2 with ⟨h1, -⟩ | ⟨b, cap, cur, h1, -, h2, -⟩
  · rw [h1]; simp [Value.ownBlock]
  · rw [h1]; intro e; simp [Value.ownBlock] at e
    rw [Blk, ← e, h2] at h'
    cases h'; exact hne rfl
/-- the model's desk in its box, its rows owned -/
structure Mb (B : Nat) (W : World) (P : Nat) (n g : Int) (va vq vc : Value) (gs : List Ag) (qs : List Wt) (cs : List Int) : Prop where
  blk : Blk W P (D4 n va vq g) 27
  ag : Og 3 agC 36 B W va gs
  qu : Og 4 wtC 74 B W vq qs
  ca : Ow .i64 3 B W vc cs
theorem Mb.below {B : Nat} {W W' : World} {P : Nat} {n g : Int} {va vq vc : Value} {gs : List Ag} {qs : List Wt} {cs : List Int} (h : Mb B W P n g va vq vc gs qs cs) (hb : Below W.heap.size W W') : Mb B W' P n g va vq vc gs qs cs :=
  ⟨h.blk.below hb h.blk.lt, h.ag.below hb, h.qu.below hb, h.ca.below hb⟩
theorem Mb.drew {B : Nat} {W : World} {P : Nat} {n g : Int} {va vq vc : Value} {gs : List Ag} {qs : List Wt} {cs : List Int} (h : Mb B W P n g va vq vc gs qs cs) : Mb B W.drew P n g va vq vc gs qs cs := h.below (Below.refl _ _).drew
theorem Mb.agb {B : Nat} {W : World} {P : Nat} {n g : Int} {va vq vc : Value} {gs : List Ag} {qs : List Wt} {cs : List Int} (h : Mb B W P n g va vq vc gs qs cs) {i : Nat} (hi : i < gs.length) : ∃ b cap, va = .slice (some ⟨b, 0, none⟩) gs.length cap ∧ b ≠ P ∧ B ≤ b ∧ b < W.heap.size := by
  have hn := row_blk h.ag h.blk (by decide)
  rcases h.ag.2 with ⟨-, h1⟩ | ⟨b, cap, cur, h1, h2, h3, h4, -⟩
  · omega
  · exact ⟨b, cap, h1, fun e => hn (by rw [h1]; simp [Value.ownBlock, e]), h2, Blk.lt h3⟩
theorem Mb.qub {B : Nat} {W : World} {P : Nat} {n g : Int} {va vq vc : Value} {gs : List Ag} {qs : List Wt} {cs : List Int} (h : Mb B W P n g va vq vc gs qs cs) {i : Nat} (hi : i < qs.length) : ∃ b cap, vq = .slice (some ⟨b, 0, none⟩) qs.length cap ∧ b ≠ P ∧ B ≤ b ∧ b < W.heap.size ∧ qs.length ≤ cap ∧ cap ≤ maxLen := by
  have hn := row_blk h.qu h.blk (by decide)
  rcases h.qu.2 with ⟨-, h1⟩ | ⟨b, cap, cur, h1, h2, h3, h4, h5, -⟩
  · omega
  · exact ⟨b, cap, h1, fun e => hn (by rw [h1]; simp [Value.ownBlock, e]), h2, Blk.lt h3, h4, h5⟩
/-- agents' cells written -/
theorem Mb.setAgent {B : Nat} {W W' : World} {P b : Nat} {n g : Int} {va vq vc : Value} {gs gs' : List Ag} {qs : List Wt} {cs : List Int} (h : Mb B W P n g va vq vc gs qs cs) (hb : va.ownBlock = some b) (hg : W.grownBy W' (some b)) (ho : Og 3 agC 36 B W' va gs') : Mb B W' P n g va vq vc gs' qs cs := by
  have h1 := row_blk h.ag h.blk (by decide)
  have h2 := row_ne h.qu h.ag (by decide)
  have h3 := row_ne h.ca h.ag (by decide)
  rw [hb] at h1 h2 h3
  exact ⟨by rw [Blk, hg.block P h.blk.lt (Ne.symm h1)]; exact h.blk, ho, World.ownsRow.kept h.qu hg h2, World.ownsRow.kept h.ca hg h3⟩
/-- another queue, and the box rewritten -/
theorem Mb.setQueue {B : Nat} {W W' : World} {P : Nat} {n g : Int} {va vq vc vq' : Value} {gs : List Ag} {qs qs' : List Wt} {cs : List Int} (h : Mb B W P n g va vq vc gs qs cs) (hg : W.grownBy W' vq.ownBlock) (ho : Og 4 wtC 74 B W' vq' qs') : Mb B (W'.setCell ⟨P, 2, none⟩ vq') P n g va vq' vc gs qs' cs := by
  have h1 := row_blk h.qu h.blk (by decide)
  have hb : Blk W' P (D4 n va vq g) 27 := by rw [Blk, hg.block P h.blk.lt (Ne.symm h1)]; exact h.blk
  have a1 := World.ownsRow.kept h.ag hg (row_ne h.ag h.qu (by decide))
  have a2 := World.ownsRow.kept h.ca hg (row_ne h.ca h.qu (by decide))
  have hs := grown_set' W' P 2 vq'
  exact ⟨hb.set 2 _, World.ownsRow.kept a1 hs (.inr (row_blk a1 hb (by decide))), World.ownsRow.kept ho hs (.inr (row_blk ho hb (by decide))), World.ownsRow.kept a2 hs (.inr (row_blk a2 hb (by decide)))⟩
theorem Mb.setBox {B : Nat} {W : World} {P : Nat} {n g : Int} {va vq vc : Value} {gs : List Ag} {qs : List Wt} {cs : List Int} (h : Mb B W P n g va vq vc gs qs cs) (i : Nat) (v : Value) (n' g' : Int) (hv : (D4 n va vq g).setIfInBounds i v = D4 n' va vq g') : Mb B (W.setCell ⟨P, i, none⟩ v) P n' g' va vq vc gs qs cs := by
  have hs := grown_set' W P i v
  exact ⟨hv ▸ h.blk.set i v, World.ownsRow.kept h.ag hs (.inr (row_blk h.ag h.blk (by decide))), World.ownsRow.kept h.qu hs (.inr (row_blk h.qu h.blk (by decide))), World.ownsRow.kept h.ca hs (.inr (row_blk h.ca h.blk (by decide)))⟩
/-- other calls -/
theorem Mb.setCalls {B : Nat} {W W' : World} {P : Nat} {n g : Int} {va vq vc vc' : Value} {gs : List Ag} {qs : List Wt} {cs cs' : List Int} (h : Mb B W P n g va vq vc gs qs cs) (hg : W.grownBy W' vc.ownBlock) (ho : Ow .i64 3 B W' vc' cs') : Mb B W' P n g va vq vc' gs qs cs' := by
  have h1 := row_blk h.ca h.blk (by decide)
  exact ⟨by rw [Blk, hg.block P h.blk.lt (Ne.symm h1)]; exact h.blk, World.ownsRow.kept h.ag hg (row_ne h.ag h.ca (by decide)), World.ownsRow.kept h.qu hg (row_ne h.qu h.ca (by decide)), ho⟩
theorem cmpW_neg (a b : Wt) : cmpW a b < 0 ↔ b.2.2.1 < a.2.2.1 ∨ b.2.2.1 = a.2.2.1 ∧ a.2.2.2 < b.2.2.2 := by
  unfold cmpW orI cmpI
  repeat' split
  all_goals omega
end Go.Proofs.Ytpmmgbinogokfaa
namespace Go.Proofs.Ytpmmgbinogokfaa
open Go.RowKit Go.ChangeShapes Go.WideShapes Go.ChangeAt
set_option linter.unusedVariables false
set_option linter.unusedSimpArgs false
set_option maxRecDepth 8000
/-- what lies below B is as it was, and so are the desks' boxes below P -/
def BelB (B P : Nat) (w w' : World) : Prop := Below B w w' ∧ ∀ (k : Nat) (cs : Array Value), k < P → Blk w k cs 27 → Blk w' k cs 27
theorem BelB.trans {B P : Nat} {u v w : World} (h : BelB B P u v) (h' : BelB B P v w) : BelB B P u w := ⟨h.1.trans h'.1, fun k cs hk hb => h'.2 k cs hk (h.2 k cs hk hb)⟩
theorem BelB.ofBelow {B P : Nat} {w w' : World} (h : Below w.heap.size w w') (hB : B ≤ w.heap.size) : BelB B P w w' := ⟨h.mono hB, fun k cs _ hb => hb.below h hb.lt⟩
theorem BelB.ofGrown {B P : Nat} {w w' : World} {row : Option Nat} (g : w.grownBy w' row) (hB : B ≤ w.heap.size) (hr : ∀ k, row = some k → B ≤ k) (hne : ∀ (k : Nat) (cs : Array Value), k < P → Blk w k cs 27 → row ≠ some k) : BelB B P w w' :=
  ⟨grown_below g hB hr, fun k cs hk hb => by rw [Blk, g.block k hb.lt (fun e => hne k cs hk hb e.symm)]; exact hb⟩
theorem BelB.setCell {B P : Nat} {w w' : World} (h : BelB B P w w') {a : Addr} (hB : B ≤ a.block) (hP : P ≤ a.block) (v : Value) : BelB B P w (w'.setCell a v) :=
  ⟨h.1.setCell hB v, fun k cs hk hb => (h.2 k cs hk hb).other _ _ (by omega)⟩
/-- what stands while the model gives callers -/
structure Gm (B P : Nat) (n g : Int) (gs : List Ag) (qs : List Wt) (w wr : World) (gs1 : List Ag) (qs1 : List Wt) (ds : List Int) (va1 vq1 vc1 : Value) (f1 : Nat) : Prop where
  mb : Mb B wr P n (g + ds.length) va1 vq1 vc1 gs1 qs1 ds
  sk : SkOk gs1
  bz : BzOk gs1
  ca : CaOk qs1
  fr : free gs1 ≤ f1
  le : ds.length + f1 ≤ gs.length
  gl : gs1.length = gs.length
  ql : qs1.length ≤ qs.length
  eq : giveN n gs.length gs qs = ((giveN n f1 gs1 qs1).1, (giveN n f1 gs1 qs1).2.1, ds ++ (giveN n f1 gs1 qs1).2.2)
  rb : Blk wr (P + 1) (D4 0 (.slice none 0 0) (.slice none 0 0) 0) 27
  bel : BelB B P w wr
theorem Gm.below {B P : Nat} {n g : Int} {gs : List Ag} {qs : List Wt} {w wr w' : World} {gs1 : List Ag} {qs1 : List Wt} {ds : List Int} {va1 vq1 vc1 : Value} {f1 : Nat} (h : Gm B P n g gs qs w wr gs1 qs1 ds va1 vq1 vc1 f1) (hB : B ≤ P) (hb : Below wr.heap.size wr w') : Gm B P n g gs qs w w' gs1 qs1 ds va1 vq1 vc1 f1 :=
  ⟨h.mb.below hb, h.sk, h.bz, h.ca, h.fr, h.le, h.gl, h.ql, h.eq, h.rb.below hb h.rb.lt, h.bel.trans (BelB.ofBelow hb (Nat.le_trans hB (Nat.le_of_lt h.mb.blk.lt)))⟩
theorem Gm.next {B P : Nat} {n g : Int} {gs : List Ag} {qs : List Wt} {w wr w' : World} {gs1 : List Ag} {qs1 : List Wt} {ds : List Int} {va1 vq1 vc1 va' vq' vc' : Value} {f1 p a : Nat} {q : Wt} {x : Ag} (h : Gm B P n g gs qs w wr gs1 qs1 ds va1 vq1 vc1 f1) (hn : nxt gs1 qs1 = some p) (hq : qs1[p]? = some q) (ht : taker gs1 q.2.1 = some a) (hx : gs1[a]? = some x)
    (hl : Mb B w' P n (g + ds.length + 1) va' vq' vc' (gs1.set a (x.1, q.1, n)) (qs1.eraseIdx p) (ds ++ [q.1])) (hb : BelB B P wr w') (hr : Blk w' (P + 1) (D4 0 (.slice none 0 0) (.slice none 0 0) 0) 27) :
    ∃ f2, Gm B P n g gs qs w w' (gs1.set a (x.1, q.1, n)) (qs1.eraseIdx p) (ds ++ [q.1]) va' vq' vc' f2 := by
  have hg1 : giveOne n gs1 qs1 = some (gs1.set a (x.1, q.1, n), qs1.eraseIdx p, q.1) := by simp [giveOne, hn, hq, ht, setA, hx]
  obtain ⟨h1, h2, h3, h4⟩ := giveOne_free h.ca hg1
  have hf1 : 0 < f1 := by have := h.fr; omega
  obtain ⟨f2, rfl⟩ : ∃ f2, f1 = f2 + 1 := ⟨f1 - 1, by omega⟩
  refine ⟨f2, ⟨?_, giveOne_sk h.sk hg1, giveOne_bz h.bz h.ca hg1, h4, by have := h.fr; omega, by have := h.le; simp; omega, by rw [h2, h.gl], by have := h.ql; omega, ?_, hr, h.bel.trans hb⟩⟩
  · rw [show ((ds ++ [q.1]).length : Int) = ds.length + 1 by simp, ← Int.add_assoc]; exact hl
  · rw [h.eq, giveN, hg1]; simp
theorem Mb.qLen {B : Nat} {W : World} {P : Nat} {n g : Int} {va vq vc : Value} {gs : List Ag} {qs : List Wt} {cs : List Int} (h : Mb B W P n g va vq vc gs qs cs) : qLen P W = qs.length := by
  have h1 := h.blk.cell 2
  obtain ⟨a, c, h2⟩ := h.qu.form
  simp at h1
  rw [Go.Proofs.Ytpmmgbinogokfaa.qLen, h1, h2]
theorem results_D2 {fn : Func} {p u : Tmp} (h : fn.results = #[.cell p 27, .tmp u]) (tmps : Array Value) (w : World) (g : Nat) (n : Int) (va vq : Value) (gg : Int) (x : Value)
    (hp : tmps.getD p undef = .pointer (some ⟨g, 0, none⟩)) (hx : tmps.getD u undef = x) (hg : Blk w g (D4 n va vq gg) 27) :
    (results fn tmps).run Try.prog w = .ok (.tuple #[.agg (D4 n va vq gg), x]) w := by
  have hp' : tmps[p]?.getD undef = .pointer (some ⟨g, 0, none⟩) := by simpa using hp
  have hx' : tmps[u]?.getD undef = x := by simpa using hx
  have hr := run_loadVar_row (P := Try.prog) w g 27 27 (D4 n va vq gg) (0, 0) _ hg Try.underlying27 rfl sizeDk
  simp [results, h, hp', hx', asAddr, hr]
def GmR (B : Nat) (n g : Int) (R : List Ag × List Wt × List Int) (w : World) (e : Ending) (w' : World) : Prop :=
  ∃ va' vq' vc', e = .returned (.tuple #[.agg (D4 n va' vq' (g + R.2.2.length)), vc']) ∧ Og 3 agC 36 B w' va' R.1 ∧ Og 4 wtC 74 B w' vq' R.2.1 ∧ Ow .i64 3 B w' vc' R.2.2 ∧ BelB B w.heap.size w w'
set_option maxHeartbeats 12800000 in
theorem giveM_c (B : Nat) (n g : Int) (va vq : Value) (gs : List Ag) (qs : List Wt) (w : World) (ha : Og 3 agC 36 B w va gs) (hq : Og 4 wtC 74 B w vq qs) (hs : SkOk gs) (hbz : BzOk gs) (hc : CaOk qs) (hB : B ≤ w.heap.size) (hn : qs.length ≤ 1048576) (hgn : gs.length ≤ 1048576) (hg0 : 0 ≤ g) (hg1 : g ≤ 900000000) :
   Calls Try.prog 53 #[.agg (D4 n va vq g)] w (GmR B n g (giveN n gs.length gs qs) w) := by
  obtain ⟨W0, hW0⟩ : ∃ W0, ((w.alloc (Obj.cells (D4 n va vq g) 27)).alloc (Obj.cells (D4 0 (.slice none 0 0) (.slice none 0 0) 0) 27)).alloc (Obj.cells #[] 3) = W0 := ⟨_, rfl⟩
  have b0 : Below w.heap.size w W0 := hW0 ▸ (((Below.refl _ _).alloc (Nat.le_refl _) _).alloc (by simp) _).alloc (by simp; omega) _
  obtain ⟨P, hP⟩ : ∃ P, w.heap.size = P := ⟨_, rfl⟩
  have HG0 : Hid (Gm B P n g gs qs w W0 gs qs [] va vq (.slice (some ⟨P + 1 + 1, 0, none⟩) 0 0) gs.length) := by
    have h1 : Blk W0 w.heap.size (D4 n va vq g) 27 := hW0 ▸ ((Blk.new _ _ _).alloc _).alloc _
    have h2 : Blk W0 (w.heap.size + 1) (D4 0 (.slice none 0 0) (.slice none 0 0) 0) 27 := hW0 ▸ (Blk.newAt _ (w.heap.size + 1) _ 27 (by simp)).alloc _
    have h3 := Ow.empty .i64 3 B ((w.alloc (Obj.cells (D4 n va vq g) 27)).alloc (Obj.cells (D4 0 (.slice none 0 0) (.slice none 0 0) 0) 27)) (by simp; omega)
    rw [hW0] at h3
    rw [← hP]
    refine ⟨⟨by simpa using h1, ha.below b0, hq.below b0, by simpa using h3⟩, hs, hbz, hc, free_le gs, by simp, rfl, Nat.le_refl _, by simp, h2, BelB.ofBelow b0 hB⟩
  obtain ⟨R, hR⟩ : ∃ R, giveN n gs.length gs qs = R := ⟨_, rfl⟩
  have HR : Hid (giveN n gs.length gs qs = R) := hR
  rw [hR]
  have HW0 : Hid (((w.alloc (Obj.cells (D4 n va vq g) 27)).alloc (Obj.cells (D4 0 (.slice none 0 0) (.slice none 0 0) 0) 27)).alloc (Obj.cells #[] 3) = W0) := hW0
  have HPP : Hid (w.heap.size = P) := hP
  have hBP : B ≤ P := by omega
  clear hW0 b0 hR hs hbz hc hP ha hq
  go_enter Try.func53, Try.ntmps53
  go_wp2
  rw [HW0.out, HPP.out]
  clear HW0
  go_loopw [4, 5] (fun v _ wr => ∃ gs1 qs1 ds va1 vq1 ac mc cc f1, v = .slice ac mc cc ∧ Hid (ds.length = mc) ∧ mc ≤ 1048576 ∧ Hid (Gm B P n g gs qs w wr gs1 qs1 ds va1 vq1 (.slice ac mc cc) f1)) (fun _ _ wr => qLen P wr)
  case atStart => exact ⟨_, _, [], _, _, _, 0, _, _, rfl, rfl, by omega, HG0.out⟩
  case round =>
    clear HG0
    obtain ⟨gs1, qs1, ds, va1, vq1, ac, mc, cc, f1, rfl, HMC, hmc20, HG⟩ := hrel
    obtain ⟨ag, cg, hva⟩ := HG.out.mb.ag.form
    obtain ⟨aq, cq, hvq⟩ := HG.out.mb.qu.form
    obtain ⟨mg, hmg⟩ : ∃ mg, gs1.length = mg := ⟨_, rfl⟩
    obtain ⟨mq, hmq⟩ : ∃ mq, qs1.length = mq := ⟨_, rfl⟩
    have HMM : Hid (gs1.length = mg ∧ qs1.length = mq) := ⟨hmg, hmq⟩
    have hmq20 : mq ≤ 1048576 := by have := HG.out.ql; omega
    have hmg20 : mg ≤ 1048576 := by have := HG.out.gl; omega
    rw [hmg] at hva
    rw [hmq] at hvq
    subst hva hvq
    obtain ⟨gd, hgd⟩ : ∃ gd, g + (ds.length : Int) = gd := ⟨_, rfl⟩
    have HGD : Hid (g + (ds.length : Int) = gd) := hgd
    have hgd0 : 0 ≤ gd ∧ gd ≤ 1000000000 := by have := HMC.out; omega
    have RQ : Hid (Rg 4 wtC wr (.slice aq mq cq) qs1) := HG.out.mb.qu.rd wtC_len
    obtain ⟨W1, hW1⟩ : ∃ W1, W1 = wr := ⟨_, rfl⟩
    subst hW1
    have HK : Hid (∀ W, Below W1.heap.size W1 W → W.cell? ⟨P, 0, none⟩ = some (.int .i64 n) ∧ W.cell? ⟨P, 1, none⟩ = some (.slice ag mg cg) ∧ W.cell? ⟨P, 2, none⟩ = some (.slice aq mq cq) ∧ W.cell? ⟨P, 3, none⟩ = some (.int .i64 gd)) := fun W hW => by
      have hk := HG.out.mb.blk.below hW HG.out.mb.blk.lt
      rw [hgd] at hk
      exact ⟨hk.cell 0, hk.cell 1, hk.cell 2, hk.cell 3⟩
    have HTK : Hid (∀ W (q : Wt), Below W1.heap.size W1 W → Calls Try.prog 43 #[.agg (D4 n (.slice ag mg cg) (.slice aq mq cq) gd), .agg #[.int .i64 q.1, .int .i64 q.2.1, .int .i64 q.2.2.1, .int .i64 q.2.2.2]] W fun e w' => e = .returned (.int .i64 (optI (taker gs1 q.2.1))) ∧ Below W.heap.size W w') := fun W q hW =>
      taker_c n gd _ _ gs1 q W ((HG.out.mb.ag.rd agC_len).below hW) ⟨_, _, _, rfl⟩ HG.out.sk HG.out.bz
    have hlP : P < W1.heap.size := HG.out.mb.blk.lt
    clear hmg hmq hgd
    go_wp2
    go_loopw [5, 6] (fun q i wr => ∃ j : Nat, j ≤ mq ∧ i = .int .i64 j ∧ q = .int .i64 (optI (bstTo (goB gs1) cmpW qs1 j)) ∧ Hid (Below W1.heap.size W1 wr)) (fun _ i _ => mq - (intOf i).toNat)
    case atStart => exact ⟨0, Nat.zero_le _, rfl, rfl, Below.refl _ _⟩
    case round =>
      obtain ⟨j, hj, rfl, rfl, BJ⟩ := hrel
      have hlPr : P < wr.heap.size := Nat.lt_of_lt_of_le hlP BJ.out.size
      obtain ⟨x0, x1, x2, x3⟩ := HK.out wr BJ.out
      by_cases hlt : j < mq
      case pos =>
        have hjl : j < qs1.length := by rw [HMM.out.2]; exact hlt
        obtain ⟨b, off, rfl, h4⟩ : ∃ b off, aq = some ⟨b, off, none⟩ ∧ ∀ i (h : i < qs1.length), W1.rangeAt b (off + i * 4) (wtC qs1[i]) := by
          obtain ⟨a', c', e', _, _, h⟩ := RQ.out
          cases e'
          rcases h with h | h
          · rw [h] at hjl; simp at hjl
          · exact h
        have H4 : Hid (∀ i (h : i < qs1.length), W1.rangeAt b (off + i * 4) (wtC qs1[i])) := h4
        have hcb : b < W1.heap.size := block_lt_of_cell (h4 j hjl 0 _ rfl)
        obtain ⟨r, hr⟩ : ∃ r, qs1[j] = r := ⟨_, rfl⟩
        have HR1 : Hid (qs1[j]? = some r) := by show qs1[j]? = some r; rw [List.getElem?_eq_getElem hjl, hr]
        have hcj := h4 j hjl
        rw [hr] at hcj
        have y0 : ∀ W : Ov wr, W.wd.cell? ⟨P, 0, none⟩ = some (.int .i64 n) := ov_cell x0
        have y1 : ∀ W : Ov wr, W.wd.cell? ⟨P, 1, none⟩ = some (.slice ag mg cg) := ov_cell x1
        have y2 : ∀ W : Ov wr, W.wd.cell? ⟨P, 2, none⟩ = some (.slice (some ⟨b, off, none⟩) mq cq) := ov_cell x2
        have y3 : ∀ W : Ov wr, W.wd.cell? ⟨P, 3, none⟩ = some (.int .i64 gd) := ov_cell x3
        have z0 : ∀ W : Ov wr, W.wd.cell? ⟨b, off + j * 4, none⟩ = some (.int .i64 r.1) := fun W => rangeAt_below hcj (belowCall BJ.out W.ok BJ.out.size) hcb 0 _ rfl
        have z1 : ∀ W : Ov wr, W.wd.cell? ⟨b, off + j * 4 + 1, none⟩ = some (.int .i64 r.2.1) := fun W => rangeAt_below hcj (belowCall BJ.out W.ok BJ.out.size) hcb 1 _ rfl
        have z2 : ∀ W : Ov wr, W.wd.cell? ⟨b, off + j * 4 + 2, none⟩ = some (.int .i64 r.2.2.1) := fun W => rangeAt_below hcj (belowCall BJ.out W.ok BJ.out.size) hcb 2 _ rfl
        have z3 : ∀ W : Ov wr, W.wd.cell? ⟨b, off + j * 4 + 3, none⟩ = some (.int .i64 r.2.2.2) := fun W => rangeAt_below hcj (belowCall BJ.out W.ok BJ.out.size) hcb 3 _ rfl
        have ne : Nonempty (Ov wr) := ⟨⟨_, Below.refl _ _⟩⟩
        obtain ⟨u, hu⟩ : ∃ u, optI (taker gs1 r.2.1) = u := ⟨_, rfl⟩
        have HGB : Hid (goB gs1 r = decide (0 ≤ u)) := by
          show goB gs1 r = decide (0 ≤ u)
          rw [goB, ← hu]; cases taker gs1 r.2.1 <;> simp [optI]
        have HC : Hid (∀ W : Ov wr, Calls Try.prog 43 #[.agg (D4 n (.slice ag mg cg) (.slice (some ⟨b, off, none⟩) mq cq) gd), .agg #[.int .i64 r.1, .int .i64 r.2.1, .int .i64 r.2.2.1, .int .i64 r.2.2.2]] W.wd fun e w'' => e = .returned (.int .i64 u) ∧ ∃ W' : Ov wr, w'' = W'.wd) := fun W => ov_call (by rw [← hu]; exact HTK.out W.wd r (belowCall BJ.out W.ok BJ.out.size))
        have hji : (j : Int) < (mq : Int) := by omega
        have hji0 : (0 : Int) ≤ (j : Int) := by omega
        have HCJ : Hid (W1.rangeAt b (off + j * 4) (wtC r)) := hcj
        clear h4 hr hu hcj
        by_cases hu0 : u < 0
        · have HY : Hid (bstTo (goB gs1) cmpW qs1 (j + 1) = bstTo (goB gs1) cmpW qs1 j) := by
            show _ = _
            have : goB gs1 r = false := by rw [HGB.out]; exact decide_eq_false (by omega)
            rw [bstTo, HR1.out]; simp [this]
          have hud : decide (u < 0) = true := decide_eq_true hu0
          go_wp2_with (fail)
          refine region_over (by kernel_rfl) (by kernel_rfl) ?_
          repeat (go_big_quiet_step (first | (go_at_call 43; exact HC.out _)))
          refine wpQuiet_nil ?_
          rintro _ ⟨W, rfl⟩
          have HBW : Hid (Below W1.heap.size W1 W.wd) := belowCall BJ.out W.ok BJ.out.size
          clear y0 y1 y2 y3 z0 z1 z2 z3 x0 x1 x2 x3
          go_wp2
          go_roundw
          case rel => exact ⟨j + 1, by omega, by go_num, by rw [HY.out], HBW.out⟩
          case measure => simp [intOf]; omega
        · have hgo : Hid (goB gs1 r = true) := by show goB gs1 r = true; rw [HGB.out]; exact decide_eq_true (by omega)
          have hud : decide (u < 0) = false := decide_eq_false hu0
          go_wp2_with (fail)
          refine region_over (by kernel_rfl) (by kernel_rfl) ?_
          repeat (go_big_quiet_step (first | (go_at_call 43; exact HC.out _)))
          refine wpQuiet_nil ?_
          rintro _ ⟨W, rfl⟩
          have BW : Hid (Below W1.heap.size W1 W.wd) := belowCall BJ.out W.ok BJ.out.size
          obtain ⟨W2, hW2⟩ : ∃ W2, W.wd = W2 := ⟨_, rfl⟩
          rw [hW2] at BW ⊢
          clear y0 y1 y2 y3 z0 z1 z2 z3 x0 x1 x2 x3 hW2 W ne HC
          obtain ⟨x0, x1, x2, x3⟩ := HK.out W2 BW.out
          have hcj := rangeAt_below HCJ.out BW.out hcb
          have e0 : W2.cell? ⟨b, off + j * 4, none⟩ = some (.int .i64 r.1) := hcj 0 _ rfl
          have e1 : W2.cell? ⟨b, off + j * 4 + 1, none⟩ = some (.int .i64 r.2.1) := hcj 1 _ rfl
          have e2 : W2.cell? ⟨b, off + j * 4 + 2, none⟩ = some (.int .i64 r.2.2.1) := hcj 2 _ rfl
          have e3 : W2.cell? ⟨b, off + j * 4 + 3, none⟩ = some (.int .i64 r.2.2.2) := hcj 3 _ rfl
          obtain ⟨W3, hW3⟩ : ∃ W3, W2.alloc (Obj.cells #[.int .i64 r.1, .int .i64 r.2.1, .int .i64 r.2.2.1, .int .i64 r.2.2.2] 74) = W3 := ⟨_, rfl⟩
          have b3 : Below W2.heap.size W2 W3 := hW3 ▸ (Below.refl _ _).alloc (Nat.le_refl _) _
          have k3 : Blk W3 W2.heap.size #[.int .i64 r.1, .int .i64 r.2.1, .int .i64 r.2.2.1, .int .i64 r.2.2.2] 74 := hW3 ▸ Blk.new _ _ _
          have B3 : Hid (Below W1.heap.size W1 W3) := belowCall BW.out b3 BW.out.size
          have HW3 : Hid (W2.alloc (Obj.cells #[.int .i64 r.1, .int .i64 r.2.1, .int .i64 r.2.2.1, .int .i64 r.2.2.2] 74) = W3) := hW3
          have y2 : ∀ W : Ov W3, W.wd.cell? ⟨P, 2, none⟩ = some (.slice (some ⟨b, off, none⟩) mq cq) := fun W => (HK.out W.wd (belowCall B3.out W.ok B3.out.size)).2.2.1
          have z2 : ∀ W : Ov W3, W.wd.cell? ⟨W2.heap.size, 2, none⟩ = some (.int .i64 r.2.2.1) := ov_cell (k3.cell 2)
          have z3 : ∀ W : Ov W3, W.wd.cell? ⟨W2.heap.size, 3, none⟩ = some (.int .i64 r.2.2.2) := ov_cell (k3.cell 3)
          have ne : Nonempty (Ov W3) := ⟨⟨_, Below.refl _ _⟩⟩
          have hlP2 : P < W2.heap.size := Nat.lt_of_lt_of_le hlP BW.out.size
          clear hcj b3 k3 hW3
          cases hb : bstTo (goB gs1) cmpW qs1 j with
          | none =>
            have HY : Hid (bstTo (goB gs1) cmpW qs1 (j + 1) = some j) := by
              show _ = some j
              rw [bstTo, HR1.out]; simp [hgo.out, hb]
            simp only [optI]
            clear hb
            go_wp2_with (fail)
            rw [HW3.out]
            clear e0 e1 e2 e3 x0 x1 x2 x3 HW3
            refine region_over (by kernel_rfl) (by kernel_rfl) ?_
            repeat (go_big_quiet_step (fail))
            refine wpQuiet_nil ?_
            rintro _ ⟨W, rfl⟩
            have HBW : Hid (Below W1.heap.size W1 W.wd) := belowCall B3.out W.ok B3.out.size
            clear y2 z2 z3
            go_wp2
            go_roundw
            case rel => exact ⟨j + 1, by omega, by go_num, (by first | (rw [HY.out]; done) | (rw [HY.out]; rfl)), HBW.out⟩
            case measure => simp [intOf]; omega
          | some p =>
            have hp := bstTo_lt hb
            have hpl : p < qs1.length := by omega
            obtain ⟨s, hs0⟩ : ∃ s, qs1[p] = s := ⟨_, rfl⟩
            have hsr := H4.out p hpl
            rw [hs0] at hsr
            have v2 : ∀ W : Ov W3, W.wd.cell? ⟨b, off + p * 4 + 2, none⟩ = some (.int .i64 s.2.2.1) := fun W => rangeAt_below hsr (belowCall B3.out W.ok B3.out.size) hcb 2 _ rfl
            have v3 : ∀ W : Ov W3, W.wd.cell? ⟨b, off + p * 4 + 3, none⟩ = some (.int .i64 s.2.2.2) := fun W => rangeAt_below hsr (belowCall B3.out W.ok B3.out.size) hcb 3 _ rfl
            have HSP : Hid (qs1[p]? = some s) := by show qs1[p]? = some s; rw [List.getElem?_eq_getElem hpl, hs0]
            have HY : Hid (bstTo (goB gs1) cmpW qs1 (j + 1) = if cmpW r s < 0 then some j else some p) := by
              show _ = _
              rw [bstTo, HR1.out]; simp [hgo.out, hb, HSP.out]
            have HN : Hid (cmpW r s < 0 ↔ s.2.2.1 < r.2.2.1 ∨ s.2.2.1 = r.2.2.1 ∧ r.2.2.2 < s.2.2.2) := cmpW_neg r s
            have hp0 : decide ((p : Int) < 0) = false := decide_eq_false (by omega)
            have hp1 : (0 : Int) ≤ (p : Int) := by omega
            have hp2 : (p : Int) < (mq : Int) := by omega
            obtain ⟨rp, hrp⟩ : ∃ z, r.2.2.1 = z := ⟨_, rfl⟩
            obtain ⟨sp, hsp⟩ : ∃ z, s.2.2.1 = z := ⟨_, rfl⟩
            obtain ⟨rt, hrt⟩ : ∃ z, r.2.2.2 = z := ⟨_, rfl⟩
            obtain ⟨st, hst⟩ : ∃ z, s.2.2.2 = z := ⟨_, rfl⟩
            rw [hrp] at z2
            rw [hrt] at z3
            rw [hsp] at v2
            rw [hst] at v3
            rw [hrp, hsp, hrt, hst] at HN
            simp only [optI]
            clear hb hsr hs0 hp hrp hsp hrt hst
            by_cases hA : sp < rp
            · have HY2 : Hid (bstTo (goB gs1) cmpW qs1 (j + 1) = some j) := by show _ = some j; rw [HY.out, if_pos (HN.out.2 (.inl hA))]
              have hAd : decide (rp > sp) = true := decide_eq_true hA
              have hAd' : decide (sp < rp) = true := decide_eq_true hA
              clear HY HN
              go_wp2_with (fail)
              rw [HW3.out]
              clear e0 e1 e2 e3 x0 x1 x2 x3 HW3
              refine region_over (by kernel_rfl) (by kernel_rfl) ?_
              repeat (go_big_quiet_step (fail))
              refine wpQuiet_nil ?_
              rintro _ ⟨W, rfl⟩
              have HBW : Hid (Below W1.heap.size W1 W.wd) := belowCall B3.out W.ok B3.out.size
              clear y2 z2 z3 v2 v3
              go_wp2
              go_roundw
              case rel => exact ⟨j + 1, by omega, by go_num, (by first | (rw [HY2.out]; done) | (rw [HY2.out]; rfl)), HBW.out⟩
              case measure => simp [intOf]; omega
            have hAd : decide (rp > sp) = false := decide_eq_false hA
            have hAd' : decide (sp < rp) = false := decide_eq_false hA
            by_cases hE : rp = sp
            · have hEd : (rp == sp) = true := by simp [hE]
              by_cases hT : rt < st
              · have HY2 : Hid (bstTo (goB gs1) cmpW qs1 (j + 1) = some j) := by show _ = some j; rw [HY.out, if_pos (HN.out.2 (.inr ⟨hE.symm, hT⟩))]
                have hTd : decide (rt < st) = true := decide_eq_true hT
                clear HY HN hE
                go_wp2_with (fail)
                rw [HW3.out]
                clear e0 e1 e2 e3 x0 x1 x2 x3 HW3
                refine region_over (by kernel_rfl) (by kernel_rfl) ?_
                repeat (go_big_quiet_step (fail))
                refine wpQuiet_nil ?_
                rintro _ ⟨W, rfl⟩
                have HBW : Hid (Below W1.heap.size W1 W.wd) := belowCall B3.out W.ok B3.out.size
                clear y2 z2 z3 v2 v3
                go_wp2
                go_roundw
                case rel => exact ⟨j + 1, by omega, by go_num, (by first | (rw [HY2.out]; done) | (rw [HY2.out]; rfl)), HBW.out⟩
                case measure => simp [intOf]; omega
              · have HY2 : Hid (bstTo (goB gs1) cmpW qs1 (j + 1) = some p) := by show _ = some p; rw [HY.out, if_neg (fun h => by have := HN.out.1 h; omega)]
                have hTd : decide (rt < st) = false := decide_eq_false hT
                clear HY HN hE
                go_wp2_with (fail)
                rw [HW3.out]
                clear e0 e1 e2 e3 x0 x1 x2 x3 HW3
                refine region_over (by kernel_rfl) (by kernel_rfl) ?_
                repeat (go_big_quiet_step (fail))
                refine wpQuiet_nil ?_
                rintro _ ⟨W, rfl⟩
                have HBW : Hid (Below W1.heap.size W1 W.wd) := belowCall B3.out W.ok B3.out.size
                clear y2 z2 z3 v2 v3
                go_wp2
                go_roundw
                case rel => exact ⟨j + 1, by omega, by go_num, (by first | (rw [HY2.out]; done) | (rw [HY2.out]; rfl)), HBW.out⟩
                case measure => simp [intOf]; omega
            · have hEd : (rp == sp) = false := by simp [hE]
              have HY2 : Hid (bstTo (goB gs1) cmpW qs1 (j + 1) = some p) := by show _ = some p; rw [HY.out, if_neg (fun h => by have := HN.out.1 h; omega)]
              clear HY HN hE
              go_wp2_with (fail)
              rw [HW3.out]
              clear e0 e1 e2 e3 x0 x1 x2 x3 HW3
              refine region_over (by kernel_rfl) (by kernel_rfl) ?_
              repeat (go_big_quiet_step (fail))
              refine wpQuiet_nil ?_
              rintro _ ⟨W, rfl⟩
              have HBW : Hid (Below W1.heap.size W1 W.wd) := belowCall B3.out W.ok B3.out.size
              clear y2 z2 z3 v2 v3
              go_wp2
              go_roundw
              case rel => exact ⟨j + 1, by omega, by go_num, (by first | (rw [HY2.out]; done) | (rw [HY2.out]; rfl)), HBW.out⟩
              case measure => simp [intOf]; omega
      case neg =>
      obtain rfl : mq = j := by omega
      have HNX : Hid (bstTo (goB gs1) cmpW qs1 mq = nxt gs1 qs1) := by show _ = _; rw [nxt, best, HMM.out.2]
      have G1 : Hid (Gm B P n g gs qs w wr gs1 qs1 ds (.slice ag mg cg) (.slice aq mq cq) (.slice ac mc cc) f1) := HG.out.below hBP BJ.out
      rw [HNX.out]
      have HQL : Hid (qLen P W1 = qs1.length) := HG.out.mb.qLen
      clear HG hlt HNX
      cases hnx : nxt gs1 qs1 with
      | none =>
        have e0 := G1.out.rb.cell 0
        have e1 := G1.out.rb.cell 1
        have e2 := G1.out.rb.cell 2
        have e3 := G1.out.rb.cell 3
        have f0 := G1.out.rb.frozen 0
        have f1' := G1.out.rb.frozen 1
        have f2 := G1.out.rb.frozen 2
        have f3 := G1.out.rb.frozen 3
        simp at e0 e1 e2 e3
        have hFin : Blk ((((wr.setCell ⟨P + 1, 0, none⟩ (.int .i64 n)).setCell ⟨P + 1, 1, none⟩ (.slice ag mg cg)).setCell ⟨P + 1, 2, none⟩ (.slice aq mq cq)).setCell ⟨P + 1, 3, none⟩ (.int .i64 gd)) (P + 1) (D4 n (.slice ag mg cg) (.slice aq mq cq) gd) 27 ∧
            GmR B n g R w (.returned (.tuple #[.agg (D4 n (.slice ag mg cg) (.slice aq mq cq) gd), .slice ac mc cc])) ((((wr.setCell ⟨P + 1, 0, none⟩ (.int .i64 n)).setCell ⟨P + 1, 1, none⟩ (.slice ag mg cg)).setCell ⟨P + 1, 2, none⟩ (.slice aq mq cq)).setCell ⟨P + 1, 3, none⟩ (.int .i64 gd)) := by
          have gf : wr.grownBy ((((wr.setCell ⟨P + 1, 0, none⟩ (.int .i64 n)).setCell ⟨P + 1, 1, none⟩ (.slice ag mg cg)).setCell ⟨P + 1, 2, none⟩ (.slice aq mq cq)).setCell ⟨P + 1, 3, none⟩ (.int .i64 gd)) (some (P + 1)) := grown_trans (grown_trans (grown_trans (grown_set' _ _ _ _) (grown_set' _ _ _ _)) (grown_set' _ _ _ _)) (grown_set' _ _ _ _)
          have he := G1.out.eq
          rw [HR.out, giveN_none (show giveOne n gs1 qs1 = none by simp [giveOne, hnx])] at he
          refine ⟨(((G1.out.rb.set 0 _).set 1 _).set 2 _).set 3 _, .slice ag mg cg, .slice aq mq cq, .slice ac mc cc, ?_, ?_, ?_, ?_, ?_⟩
          · rw [he, ← HGD.out]; simp
          · rw [he]; exact World.ownsRow.kept G1.out.mb.ag gf (.inr (row_blk G1.out.mb.ag G1.out.rb (by decide)))
          · rw [he]; exact World.ownsRow.kept G1.out.mb.qu gf (.inr (row_blk G1.out.mb.qu G1.out.rb (by decide)))
          · rw [he]; have := World.ownsRow.kept G1.out.mb.ca gf (.inr (row_blk G1.out.mb.ca G1.out.rb (by decide))); simpa [Ow] using this
          · rw [HPP.out]; exact (((G1.out.bel.setCell (by dsimp only; omega) (by dsimp only; omega) _).setCell (by dsimp only; omega) (by dsimp only; omega) _).setCell (by dsimp only; omega) (by dsimp only; omega) _).setCell (by dsimp only; omega) (by dsimp only; omega) _
        have H1 : Hid _ := hFin.1
        have H2 : Hid _ := hFin.2
        simp only [optI]
        clear hFin hnx G1
        go_wp2
        exact bodyPost_ret (v := .tuple #[.agg (D4 n (.slice ag mg cg) (.slice aq mq cq) gd), .slice ac mc cc]) (results_D2 rfl _ _ _ _ _ _ _ _ rfl rfl H1.out) rfl H2.out
      | some p =>
        obtain ⟨q, a, hq, ht⟩ := nxt_go hnx
        obtain ⟨x, hx, -⟩ := taker_fit ht
        have hpl := nxt_lt hnx
        have hal := taker_lt ht
        have HN : Hid (nxt gs1 qs1 = some p ∧ qs1[p]? = some q ∧ taker gs1 q.2.1 = some a ∧ gs1[a]? = some x) := ⟨hnx, hq, ht, hx⟩
        obtain ⟨b, off, rfl, h4⟩ : ∃ b off, aq = some ⟨b, off, none⟩ ∧ ∀ i (h : i < qs1.length), W1.rangeAt b (off + i * 4) (wtC qs1[i]) := by
          obtain ⟨a', c', e', _, _, h⟩ := RQ.out
          cases e'
          rcases h with h | h
          · rw [h] at hpl; simp at hpl
          · exact h
        have hcj := h4 p hpl
        have hqe : qs1[p] = q := (List.getElem?_eq_some_iff.1 hq).2
        rw [hqe] at hcj
        have hcb : b < W1.heap.size := block_lt_of_cell (hcj 0 _ rfl)
        have hcr := rangeAt_below hcj BJ.out hcb
        have e0 : wr.cell? ⟨b, off + p * 4, none⟩ = some (.int .i64 q.1) := hcr 0 _ rfl
        have e1 : wr.cell? ⟨b, off + p * 4 + 1, none⟩ = some (.int .i64 q.2.1) := hcr 1 _ rfl
        have e2 : wr.cell? ⟨b, off + p * 4 + 2, none⟩ = some (.int .i64 q.2.2.1) := hcr 2 _ rfl
        have e3 : wr.cell? ⟨b, off + p * 4 + 3, none⟩ = some (.int .i64 q.2.2.2) := hcr 3 _ rfl
        have hp0 : ¬ (p : Int) < 0 := by omega
        have hp1 : (0 : Int) ≤ (p : Int) := by omega
        have hp2 : (p : Int) < (mq : Int) := by have := HMM.out.2; omega
        have hpm : p < mq := by have := HMM.out.2; omega
        obtain ⟨W2, hW2⟩ : ∃ W2, wr.alloc (Obj.cells #[.int .i64 q.1, .int .i64 q.2.1, .int .i64 q.2.2.1, .int .i64 q.2.2.2] 74) = W2 := ⟨_, rfl⟩
        have b2 : Below wr.heap.size wr W2 := hW2 ▸ (Below.refl _ _).alloc (Nat.le_refl _) _
        have k2 : Blk W2 wr.heap.size #[.int .i64 q.1, .int .i64 q.2.1, .int .i64 q.2.2.1, .int .i64 q.2.2.2] 74 := hW2 ▸ Blk.new _ _ _
        have HW2 : Hid (wr.alloc (Obj.cells #[.int .i64 q.1, .int .i64 q.2.1, .int .i64 q.2.2.1, .int .i64 q.2.2.2] 74) = W2) := hW2
        have B2 : Hid (Below W1.heap.size W1 W2) := belowCall BJ.out b2 BJ.out.size
        have G2 : Hid (Gm B P n g gs qs w W2 gs1 qs1 ds (.slice ag mg cg) (.slice (some ⟨b, off, none⟩) mq cq) (.slice ac mc cc) f1) := G1.out.below hBP b2
        have K2 : Hid (Blk W2 wr.heap.size #[.int .i64 q.1, .int .i64 q.2.1, .int .i64 q.2.2.1, .int .i64 q.2.2.2] 74) := k2
        simp only [optI]
        have hP1 : P + 1 < wr.heap.size := G1.out.rb.lt
        have HRB0 : Hid (∀ k, (Value.slice ag mg cg).ownBlock = some k ∨ (Value.slice (some ⟨b, off, none⟩) mq cq).ownBlock = some k ∨ (Value.slice ac mc cc).ownBlock = some k → k < wr.heap.size ∧ B ≤ k) := by
          rintro k (h | h | h)
          · exact ⟨(G1.out.mb.ag.lt k h).2, (G1.out.mb.ag.lt k h).1⟩
          · exact ⟨(G1.out.mb.qu.lt k h).2, (G1.out.mb.qu.lt k h).1⟩
          · exact ⟨(World.ownsRow.lt G1.out.mb.ca k h).2, (World.ownsRow.lt G1.out.mb.ca k h).1⟩
        clear hnx hq ht hx h4 hcj hqe hcr hW2 b2 k2 G1
        go_wp2_with (fail)
        rw [HW2.out]
        clear HW2 e0 e1 e2 e3 x0 x1 x2 x3
        refine (HTK.out W2 q B2.out).mono ?_
        rintro e w3 ⟨rfl, b3⟩
        rw [HN.out.2.2.1]
        have B3 : Hid (Below W1.heap.size W1 w3) := belowCall B2.out b3 B2.out.size
        have G3 : Hid (Gm B P n g gs qs w w3 gs1 qs1 ds (.slice ag mg cg) (.slice (some ⟨b, off, none⟩) mq cq) (.slice ac mc cc) f1) := G2.out.below hBP b3
        have k3 := K2.out.below b3 K2.out.lt
        have K3 : Hid (Blk w3 wr.heap.size #[.int .i64 q.1, .int .i64 q.2.1, .int .i64 q.2.2.1, .int .i64 q.2.2.2] 74) := k3
        obtain ⟨y0, y1, y2, y3⟩ := HK.out w3 B3.out
        obtain ⟨bg, cg', hag, hbgP, hBbg, hbgw⟩ := G3.out.mb.agb hal
        cases hag
        have OA : Og 3 agC 36 B w3 (.slice (some ⟨bg, 0, none⟩) gs1.length cg) gs1 := G3.out.mb.ag
        obtain ⟨x1', x2', x3'⟩ := x
        obtain ⟨d0, d1, d2, fd0, fd1, fd2⟩ := Og.cells OA rfl HN.out.2.2.2
        have O1 := own_set1 agC_len OA rfl a 1 _ (x1', q.1, x3') (.int .i64 q.1) HN.out.2.2.2 (by decide) rfl
        have O2 := own_set1 agC_len O1 (by simp) a 2 (x1', q.1, x3') (x1', q.1, n) (.int .i64 n) (set_at HN.out.2.2.2) (by decide) rfl
        rw [List.set_set] at O2
        have hbgQ : bg ≠ wr.heap.size := by have := (HRB0.out bg (.inl rfl)).1; omega
        obtain ⟨W4, hW4⟩ : ∃ W4, (w3.setCell ⟨bg, a * 3 + 1, none⟩ (.int .i64 q.1)).setCell ⟨bg, a * 3 + 2, none⟩ (.int .i64 n) = W4 := ⟨_, rfl⟩
        rw [hW4] at O2
        have g4 : w3.grownBy W4 (some bg) := hW4 ▸ grown_trans (grown_set' _ _ _ _) (grown_set' _ _ _ _)
        have M4 : Hid (Mb B W4 P n (g + ds.length) (.slice (some ⟨bg, 0, none⟩) gs1.length cg) (.slice (some ⟨b, off, none⟩) mq cq) (.slice ac mc cc) (gs1.set a (x1', q.1, n)) qs1 ds) := G3.out.mb.setAgent rfl g4 O2
        have K4 : Hid (Blk W4 wr.heap.size #[.int .i64 q.1, .int .i64 q.2.1, .int .i64 q.2.2.1, .int .i64 q.2.2.2] 74) := by
          show Blk _ _ _ _; rw [Blk, g4.block _ k3.lt (by simp; exact Ne.symm hbgQ)]; exact k3
        have hrb3 := row_blk G3.out.mb.ag G3.out.rb (by decide)
        have RB4 : Hid (Blk W4 (P + 1) (D4 0 (.slice none 0 0) (.slice none 0 0) 0) 27) := by
          show Blk _ _ _ _; rw [Blk, g4.block _ G3.out.rb.lt (fun e => hrb3 (by simp [Value.ownBlock] at e ⊢; omega))]; exact G3.out.rb
        have BB4 : Hid (BelB B P w3 W4) := BelB.ofGrown g4 (by omega) (fun k e => by cases e; exact hBbg) (fun k cs _ hk e => row_blk G3.out.mb.ag hk (by decide) (by simpa [Value.ownBlock] using e))
        have c0 := k3.cell 0
        have c1 := k3.lt
        simp at c0
        simp only at d1 d2
        have ha1 : (0 : Int) ≤ (a : Int) := by omega
        have HW4 : Hid ((w3.setCell ⟨bg, a * 3 + 1, none⟩ (.int .i64 q.1)).setCell ⟨bg, a * 3 + 2, none⟩ (.int .i64 n) = W4) := hW4
        have hP3 : P < w3.heap.size := by omega
        have hgl20 : gs1.length ≤ 1048576 := hmg20
        have haI : (a : Int) < (gs1.length : Int) := by omega
        simp only [optI]
        clear b3 k3 O1 O2 OA g4 hW4 K2 G2 B2 hrb3 d0 fd0
        go_wp2_with (fail)
        rw [HW4.out]
        clear HW4 y0 y1 y2 y3 d1 d2 fd1 fd2 c0
        obtain ⟨bq, cq', hqb, hbqP, hBbq, hbqw, hcq1, hcq2⟩ := M4.out.qub hpl
        have hbb : b = bq ∧ off = 0 ∧ cq = cq' := by simp at hqb; exact ⟨hqb.1.1, hqb.1.2, hqb.2.2⟩
        obtain ⟨rfl, rfl, rfl⟩ := hbb
        unfold maxLen at hcq2
        have hcqm : mq ≤ cq := by have := HMM.out.2; omega
        have hbQ : b ≠ wr.heap.size := by have := (HRB0.out b (.inr (.inl rfl))).1; omega
        have hbP1 : b ≠ P + 1 := by
          have := row_blk M4.out.qu RB4.out (by decide)
          intro e; exact this (by simp [Value.ownBlock, e])
        obtain ⟨S, hS⟩ : ∃ S : World → Prop, ∀ W, S W ↔ Blk W P (D4 n (.slice (some ⟨bg, 0, none⟩) gs1.length cg) (.slice (some ⟨b, 0, none⟩) mq cq) (g + ds.length)) 27 := ⟨_, fun _ => Iff.rfl⟩
        have u2 : ∀ W : At S, W.wd.cell? ⟨P, 2, none⟩ = some (.slice (some ⟨b, 0, none⟩) mq cq) := fun W => Blk.cell ((hS _).1 W.ok) 2
        have ne : Nonempty (At S) := ⟨⟨W4, (hS _).2 M4.out.blk⟩⟩
        have HS : Hid (∀ W, S W ↔ Blk W P (D4 n (.slice (some ⟨bg, 0, none⟩) gs1.length cg) (.slice (some ⟨b, 0, none⟩) mq cq) (g + ds.length)) 27) := hS
        have hm1 : (p : Int) ≤ (cq : Int) := by omega
        have hm2 : (p : Int) ≤ (mq : Int) := by omega
        have hm3 : (p : Int) + 1 ≤ (mq : Int) := by omega
        have hm4 : (mq : Int) ≤ (cq : Int) := by omega
        have OQ : Hid (Og 4 wtC 74 B W4.drew (.slice (some ⟨b, 0, none⟩) mq cq) qs1) := M4.out.drew.qu
        have hBw4 : B ≤ W4.heap.size := by omega
        clear hS hqb
        refine region_mixA [true, true, true, true, true, true, true, true, true, false, false, false] 10 1 S (by kernel_rfl) rfl (by kernel_rfl) (fun _ _ _ _ _ h => h) ((HS.out _).2 M4.out.blk.drew) ?_
        simp only [selT, selF]
        repeat (go_big_quiet_step (fail))
        refine wpQuiet_nil ?_
        refine tail_step ?_
        clear u2 ne
        simp only [Nat.zero_add]
        obtain ⟨ad, had⟩ : ∃ ad, (if cq = p + 1 then some (⟨b, 0, none⟩ : Addr) else some ⟨b, (p + 1) * 4, none⟩) = ad := ⟨_, rfl⟩
        rw [had]
        refine cutWt rfl _ _ rfl B b mq cq p qs1 OQ.out HMM.out.2 hpm (by omega) rfl ad had rfl hBw4 ?_
        clear had
        intro v5 w5 o5 g5
        have g5' : W4.grownBy w5 (some b) := ⟨g5.os, g5.tape, g5.output, g5.size, g5.block⟩
        have M5 := M4.out.setQueue (vq' := v5) (qs' := qs1.eraseIdx p) g5' o5
        have hkp5 : Blk w5 P (D4 n (.slice (some ⟨bg, 0, none⟩) gs1.length cg) (.slice (some ⟨b, 0, none⟩) mq cq) (g + ds.length)) 27 := by rw [Blk, g5'.block P M4.out.blk.lt (by simp; exact Ne.symm hbqP)]; exact M4.out.blk
        have S5 : Hid (S w5) := (HS.out _).2 hkp5
        have hk5 : Blk w5 wr.heap.size #[.int .i64 q.1, .int .i64 q.2.1, .int .i64 q.2.2.1, .int .i64 q.2.2.2] 74 := by rw [Blk, g5'.block _ K4.out.lt (by simp; exact Ne.symm hbQ)]; exact K4.out
        have hr5 : Blk w5 (P + 1) (D4 0 (.slice none 0 0) (.slice none 0 0) 0) 27 := by rw [Blk, g5'.block _ RB4.out.lt (by simp; exact Ne.symm hbP1)]; exact RB4.out
        have BB5 : BelB B P w3 w5 := BB4.out.trans (BelB.ofGrown g5' hBw4 (fun k e => by cases e; exact hBbq) (fun k cs _ hk e => row_blk M4.out.qu hk (by decide) (by simpa [Value.ownBlock] using e)))
        have M6 := M5.setBox 3 (.int .i64 (g + ds.length + 1)) n (g + ds.length + 1) rfl
        obtain ⟨W6, hW6⟩ : ∃ W6, (w5.setCell ⟨P, 2, none⟩ v5).setCell ⟨P, 3, none⟩ (.int .i64 (g + ds.length + 1)) = W6 := ⟨_, rfl⟩
        rw [hW6] at M6
        have hQP : wr.heap.size ≠ P := by omega
        have hk6 : Blk W6 wr.heap.size #[.int .i64 q.1, .int .i64 q.2.1, .int .i64 q.2.2.1, .int .i64 q.2.2.2] 74 := hW6 ▸ (hk5.other _ _ hQP).other _ _ hQP
        have hr6 : Blk W6 (P + 1) (D4 0 (.slice none 0 0) (.slice none 0 0) 0) 27 := hW6 ▸ (hr5.other _ _ (by simp)).other _ _ (by simp)
        have BB6 : BelB B P w3 W6 := hW6 ▸ (BB5.setCell (by dsimp only; exact hBP) (Nat.le_refl _) _).setCell (by dsimp only; exact hBP) (Nat.le_refl _) _
        obtain ⟨W7, hW7⟩ : ∃ W7, W6.alloc (Obj.cells #[.int .i64 q.1] 3) = W7 := ⟨_, rfl⟩
        have b7 : Below W6.heap.size W6 W7 := hW7 ▸ (Below.refl _ _).alloc (Nat.le_refl _) _
        have M7 : Hid (Mb B W7 P n (g + ds.length + 1) (.slice (some ⟨bg, 0, none⟩) gs1.length cg) v5 (.slice ac mc cc) (gs1.set a (x1', q.1, n)) (qs1.eraseIdx p) ds) := M6.below b7
        have R7 : Hid (Blk W7 (P + 1) (D4 0 (.slice none 0 0) (.slice none 0 0) 0) 27) := hr6.below b7 hr6.lt
        have hsz6 : W6.heap.size = w5.heap.size := by rw [← hW6]; simp
        have HSZ6 : Hid (W6.heap.size = w5.heap.size) := hsz6
        have hw6P : P < W6.heap.size := M6.blk.lt
        have BB7 : Hid (BelB B P w3 W7) := BB6.trans (BelB.ofBelow b7 (by omega))
        have X7 : Hid (Rd .i64 W7 (.slice (some ⟨w5.heap.size, 0, none⟩) 1 1) [q.1]) := by
          refine ⟨_, 1, rfl, by simp, by simp [maxLen], .inr ⟨w5.heap.size, 0, rfl, fun i hi => ?_⟩⟩
          obtain rfl : i = 0 := by simpa using hi
          have kk : Blk W7 w5.heap.size #[.int .i64 q.1] 3 := hW7 ▸ Blk.newAt _ _ _ 3 hsz6.symm
          simpa using kk.cell 0
        have HW6 : Hid ((w5.setCell ⟨P, 2, none⟩ v5).setCell ⟨P, 3, none⟩ (.int .i64 (g + ds.length + 1)) = W6) := hW6
        have HW7 : Hid (W6.alloc (Obj.cells #[.int .i64 q.1] 3) = W7) := hW7
        have hB7 : B ≤ W7.heap.size := by have := b7.size; omega
        have p2 := hkp5.cell 2
        have p3 := hkp5.cell 3
        have pf2 := hkp5.frozen 2
        have pf3 := hkp5.frozen 3
        have c0 := hk5.cell 0
        have c1 := hk5.lt
        simp at p2 p3 c0
        have hw5P : P < w5.heap.size := hkp5.lt
        obtain ⟨a5, c5, hv5⟩ := o5.form
        obtain ⟨m5, hm5⟩ : ∃ m5, (qs1.eraseIdx p).length = m5 := ⟨_, rfl⟩
        have HM5 : Hid ((qs1.eraseIdx p).length = m5) := hm5
        rw [hm5] at hv5
        subst hv5
        have hgb1 : 0 ≤ g + (ds.length : Int) := by have := HGD.out; omega
        have hgb2 : g + (ds.length : Int) ≤ 1000000000 := by have := HGD.out; omega
        have HQE : Hid (m5 < qs1.length) := by show m5 < qs1.length; rw [← hm5, List.length_eraseIdx_of_lt hpl]; omega
        clear o5 g5 g5' M5 M6 hk5 hr5 BB5 hkp5 hk6 hr6 BB6 b7 hW6 hW7 hsz6 hm5 OQ
        go_wp2
        refine ⟨S5.out, tail_end ?_⟩
        clear S5
        go_wp2_with (at_builtin; rw [HW6.out, HW7.out]; refine appIs rfl _ _ rfl B _ ds rfl M7.out.ca _ [q.1] rfl X7.out (by simp; have := HMC.out; omega) hB7 ?_)
        intro v8 w8 o8 g8 hv8
        have M8 := M7.out.setCalls g8 o8
        have hr8 : Blk w8 (P + 1) (D4 0 (.slice none 0 0) (.slice none 0 0) 0) 27 := by
          rw [Blk, g8.block _ R7.out.lt (Ne.symm (row_blk M7.out.ca R7.out (by decide)))]; exact R7.out
        have BB8 : BelB B P w3 w8 := BB7.out.trans (BelB.ofGrown g8 hB7 (fun k e => (World.ownsRow.lt M7.out.ca k e).1) (fun k cs _ hk e => row_blk M7.out.ca hk (by decide) e))
        obtain ⟨f2, hg2⟩ := G3.out.next HN.out.1 HN.out.2.1 HN.out.2.2.1 HN.out.2.2.2 M8 BB8 hr8
        obtain ⟨a8, c8, hv9, -⟩ := own_form o8
        have hl8 : (ds ++ [q.1]).length = mc + 1 := by simp [HMC.out]
        rw [hl8] at hv9
        subst hv9
        have HL8 : Hid ((ds ++ [q.1]).length = mc + 1) := hl8
        have HG2 : Hid (Gm B P n g gs qs w w8 (gs1.set a (x1', q.1, n)) (qs1.eraseIdx p) (ds ++ [q.1]) (.slice (some ⟨bg, 0, none⟩) gs1.length cg) (.slice a5 m5 c5) (.slice a8 (mc + 1) c8) f2) := hg2
        have HMs : Hid (qLen P w8 < qLen P W1) := by
          show qLen P w8 < qLen P W1
          rw [HQL.out, hg2.mb.qLen]
          have := HQE.out
          have := HM5.out
          omega
        have hmc8 : mc + 1 ≤ 1048576 := by have := hg2.le; rw [hl8] at this; omega
        clear M8 hr8 BB8 o8 g8 hv8 hg2 hl8 M7 R7 X7 BB7
        go_wp2
        go_roundw
        case rel => exact ⟨_, _, _, _, _, _, _, _, _, rfl, HL8.out, hmc8, HG2.out⟩
        case measure => exact HMs.out
end Go.Proofs.Ytpmmgbinogokfaa
