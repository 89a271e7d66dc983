/- The contract of the model's way of taking a leg out of a call; no condition but that nothing is too long. -/
import Derived.Test.YtcbeaimpmjljjaaCopy
namespace Go.Proofs.Ytcbeaimpmjljjaa
open Go.RowKit Go.ChangeShapes Go.WideShapes Go.ChangeAt
set_option linter.unusedVariables false
set_option linter.unusedSimpArgs false
set_option maxRecDepth 8000
/-- the list of calls was written anew, in its place or in a new one -/
theorem OwL.reblk {base : Nat} {w w' : World} {blk blk' : Option Nat} {lv : List (Value × Value)} {cs : Calls2} (h : OwL base w blk lv cs) (hl : lv.length = cs.length) (hg : w.grownBy w' blk) (hb : blk' = blk ∨ blk' = some w.heap.size) : OwL base w' blk' lv cs := by
  have L := h.grown hg (.inr rfl)
  rcases hb with rfl | rfl
  · exact L
  · intro i h1 h2
    obtain ⟨e, o, n, d⟩ := L i h1 h2
    refine ⟨e, o, .inr fun e2 => ?_, d⟩
    have := (World.ownsRow.lt (h i h1 h2).2.1 _ e2).2
    omega
/-- one call's legs were written anew, in their place or in a new one -/
theorem OwL.put {base : Nat} {w1 w2 : World} {blk : Option Nat} {lv : List (Value × Value)} {cs : Calls2} (h : OwL base w1 blk lv cs) {j : Nat} (hj : j < lv.length) (hj' : j < cs.length) (hl : lv.length = cs.length) (b : Bool) (x : Value) (ls' : Legs2) (hg : w1.grownBy w2 lv[j].2.ownBlock) (hO : Op lf lg 42 base w2 x ls')
    (hxb : x.ownBlock = lv[j].2.ownBlock ∨ ∀ k, x.ownBlock = some k → w1.heap.size ≤ k) (hblk : ∀ k, blk = some k → k < w1.heap.size) :
    OwL base w2 blk (lv.set j (.bool b, x)) (cs.set j (b, ls')) := by
  have old : ∀ t (ht : t < lv.length) k, lv[t].2.ownBlock = some k → k < w1.heap.size := fun t ht k e => (World.ownsRow.lt (h t ht (by omega)).2.1 k e).2
  have apart : ∀ t (ht : t < lv.length), t ≠ j → lv[t].2.ownBlock = none ∨ lv[t].2.ownBlock ≠ lv[j].2.ownBlock := fun t ht hne => by
    rcases Nat.lt_or_ge j t with hl | hl
    · exact (h t ht (by omega)).2.2.2 j hj hl
    · have := (h j hj hj').2.2.2 t ht (by omega)
      cases hv : lv[t].2.ownBlock with
      | none => exact .inl rfl
      | some k =>
        refine .inr fun e2 => ?_
        rcases this with h0 | h0
        · rw [h0] at e2; cases e2
        · exact h0 (by rw [hv]; exact e2.symm)
  have xapart : ∀ t (ht : t < lv.length), t ≠ j → (x.ownBlock = none ∨ x.ownBlock ≠ lv[t].2.ownBlock) ∧ (lv[t].2.ownBlock = none ∨ lv[t].2.ownBlock ≠ x.ownBlock) := fun t ht hne => by
    have key : ∀ k, x.ownBlock = some k → lv[t].2.ownBlock = some k → False := fun k e1 e2 => by
      rcases hxb with h0 | h0
      · rcases apart t ht hne with h1 | h1
        · rw [h1] at e2; cases e2
        · exact h1 (by rw [e2, ← h0, e1])
      · have := h0 k e1; have := old t ht k e2; omega
    constructor
    · cases hv : x.ownBlock with
      | none => exact .inl rfl
      | some k => exact .inr fun e => key k hv e.symm
    · cases hv : lv[t].2.ownBlock with
      | none => exact .inl rfl
      | some k => exact .inr fun e => key k e.symm hv
  intro i hi hi'
  have hi1 : i < lv.length := by simpa using hi
  have hi2 : i < cs.length := by simpa using hi'
  obtain ⟨q1, q2, q3, q4⟩ := h i hi1 hi2
  by_cases e : i = j
  · subst e
    refine ⟨by simp, by simpa using hO, ?_, fun t ht hti => ?_⟩
    · simp only [List.getElem_set_self]
      rcases hxb with h0 | h0
      · rw [h0]; exact q3
      · cases hv : x.ownBlock with
        | none => exact .inl rfl
        | some k => exact .inr fun e => by have := h0 k hv; have := hblk k e.symm; omega
    · have ht1 : t < lv.length := by simpa using ht
      have hne2 : ¬ i = t := by omega
      simp only [List.getElem_set_ne hne2, List.getElem_set_self]
      exact (xapart t ht1 (by omega)).1
  · have hne : ¬ j = i := fun h => e h.symm
    refine ⟨by rw [List.getElem_set_ne hne, List.getElem_set_ne hne]; exact q1, ?_, by rw [List.getElem_set_ne hne]; exact q3, fun t ht hti => ?_⟩
    · rw [List.getElem_set_ne hne, List.getElem_set_ne hne]
      exact World.ownsRow.kept q2 hg (apart i hi1 e)
    · have ht1 : t < lv.length := by simpa using ht
      rw [List.getElem_set_ne hne]
      by_cases e3 : t = j
      · subst e3; simp only [List.getElem_set_self]; exact (xapart i hi1 e).2
      · rw [List.getElem_set_ne (fun h => e3 h.symm)]; exact q4 t ht1 hti
theorem OwL.erase {base : Nat} {w : World} {blk : Option Nat} {lv : List (Value × Value)} {cs : Calls2} (h : OwL base w blk lv cs) (hl : lv.length = cs.length) (i : Nat) : OwL base w blk (lv.eraseIdx i) (cs.eraseIdx i) := by
  intro t h1 h2
  have hs : (lv.eraseIdx i).length ≤ lv.length := List.length_eraseIdx_le _ _
  by_cases hi : i < lv.length
  · have hl1 : (lv.eraseIdx i).length = lv.length - 1 := List.length_eraseIdx_of_lt hi
    obtain ⟨f, hf⟩ : ∃ f : Nat → Nat, f = fun t => if t < i then t else t + 1 := ⟨_, rfl⟩
    have hfl : ∀ t, t < (lv.eraseIdx i).length → f t < lv.length := fun t ht => by rw [hf]; dsimp only; split <;> omega
    have e1 : ∀ t (ht : t < (lv.eraseIdx i).length), (lv.eraseIdx i)[t] = lv[f t]'(hfl t ht) := fun t ht => by
      rw [List.getElem_eraseIdx]; subst hf; dsimp only; split <;> rfl
    have e2 : (cs.eraseIdx i)[t] = cs[f t]'(by have := hfl t h1; omega) := by
      rw [List.getElem_eraseIdx]; subst hf; dsimp only; split <;> rfl
    have := h (f t) (hfl t h1) (by have := hfl t h1; omega)
    rw [e1 t h1, e2]
    refine ⟨this.1, this.2.1, this.2.2.1, fun j hj hjt => ?_⟩
    rw [e1 j hj]
    exact this.2.2.2 (f j) (hfl j hj) (by subst hf; dsimp only; split <;> split <;> omega)
  · have e1 : lv.eraseIdx i = lv := List.eraseIdx_of_length_le (by omega)
    have e2 : cs.eraseIdx i = cs := List.eraseIdx_of_length_le (by omega)
    have := h t (by rw [e1] at h1; exact h1) (by rw [e2] at h2; exact h2)
    simp only [e1, e2]
    exact this
theorem OwL.off {base k : Nat} {w w' : World} {blk : Option Nat} {lv : List (Value × Value)} {cs : Calls2} (h : OwL base w blk lv cs) (hg : w.grownBy w' (some k)) (hne : ∀ x ∈ lv, x.2.ownBlock ≠ some k) : OwL base w' blk lv cs := by
  intro t h1 h2
  obtain ⟨e, o, n, d⟩ := h t h1 h2
  exact ⟨e, World.ownsRow.kept o hg (.inr (hne _ (List.getElem_mem h1))), n, d⟩
/-- what lies ahead of the k-th -/
theorem Op.pre {α : Type} {f g : α → Value} {E : TypeId} {base b n cap k : Nat} {w : World} {ls : List α} (h : w.ownsRow base E 2 (.slice (some ⟨b, 0, none⟩) n cap) n (pr f g ls)) (hn : ls.length = n) (hk : k < n) : w.ownsRow base E 2 (.slice (some ⟨b, 0, none⟩) k cap) k (pr f g (ls.take k)) := by
  rcases h.2 with ⟨e, -⟩ | ⟨b', cap', cur, e, hb, hg, hnc, hcm, hcs, ht⟩
  · cases e
  · cases e
    refine ⟨by rw [pr_len]; simp; omega, .inr ⟨b, cap, cur, rfl, hb, hg, by omega, hcm, hcs, ?_⟩⟩
    have e1 : pr f g ls = pr f g (ls.take k) ++ pr f g (ls.drop k) := by rw [← pr_append, List.take_append_drop]
    have e2 : cur.toList.take (k * 2) = (cur.toList.take (n * 2)).take (k * 2) := by rw [List.take_take, Nat.min_eq_left (by omega)]
    have hl : (pr f g (ls.take k)).length = k * 2 := by rw [pr_len]; simp; omega
    rw [e2, ht, e1, List.take_append_of_le_length (by omega), List.take_of_length_le (by omega)]
/-- the k-th is cut out: the rest is moved up -/
theorem appCut {α : Type} {f g : α → Value} {T E : TypeId} {z : Value} {by' : Nat} (hT : Try.prog.underlying T = some (.slice E)) (hI : (Try.prog.info? E).map (fun i => (i.zero, i.size, i.bytes)) = some (some z, 2, by')) (hzs : z.cells.size = 2) (hby : by' ≤ 32)
    {ops : Array Oper} {rest : List Oper} {o : Oper} {a : Act} {w : World} {Q : Exit → Act → World → Prop} (hgd : o.guard = none) (s x : Operand)
    (ho : o.op = .call { callee := .builtin .append, args := #[s, x], argTypes := #[T, T] }) (base b n cap k : Nat) (ls : List α) (hown : w.ownsRow base E 2 (.slice (some ⟨b, 0, none⟩) n cap) n (pr f g ls)) (hn : ls.length = n) (hk : k < n) (h20 : n ≤ 4194304)
    (hs : a.eval s = .slice (some ⟨b, 0, none⟩) k cap) (ad : Option Addr) (had : (if cap = k + 1 then some (⟨b, 0, none⟩ : Addr) else some ⟨b, (k + 1) * 2, none⟩) = ad) (hx : a.eval x = .slice ad (n - (k + 1)) (cap - (k + 1))) (h1 : ∀ u ∈ pr f g ls, u.oneCell' = true) (hbase : base ≤ w.heap.size)
    (h : ∀ b' cap' w', w'.ownsRow base E 2 (.slice (some ⟨b', 0, none⟩) (n - 1) cap') (n - 1) (pr f g (ls.eraseIdx k)) → w.grownBy w' (some b) → (b' = b ∨ b' = w.heap.size) → b' < w'.heap.size → n - 1 ≤ cap' ∧ cap' ≤ 2 ^ 63 - 1 → wpList Try.prog ops Q rest (a.put o.dst (.slice (some ⟨b', 0, none⟩) (n - 1) cap')) w') : wpList Try.prog ops Q (o :: rest) a w := by
  obtain ⟨i0, hi, hz0, hz1, hz2⟩ := info_parts hI
  have hpre := Op.pre hown hn hk
  have e1 : pr f g ls = pr f g (ls.take (k + 1)) ++ pr f g (ls.drop (k + 1)) := by rw [← pr_append, List.take_append_drop]
  have hl1 : (pr f g (ls.take (k + 1))).length = (k + 1) * 2 := by rw [pr_len]; simp; omega
  have hsum : k + (n - (k + 1)) = n - 1 := by omega
  have hx' : a.eval x = .slice (some (if cap = k + 1 then ⟨b, 0, none⟩ else ⟨b, (k + 1) * 2, none⟩)) (n - (k + 1)) (cap - (k + 1)) := by rw [hx, ← had]; split <;> rfl
  have hcap : n ≤ cap := by
    obtain ⟨a', c', e', m1, m2, -⟩ := own_form hown
    cases e'; exact m1
  refine wpList_append_own_at w hgd s x T ho base E i0 z 2 by' hT hi hz0 hz1 hz2 hzs (by decide) _ k (pr f g (ls.take k)) hs hpre _ (n - (k + 1)) (cap - (k + 1)) (pr f g (ls.drop (k + 1))) hx' (by rw [pr_len]; simp [hn]) ?_ ?_ ?_ ?_ hbase ?_
  · intro j u hj
    have hjl : j < (n - (k + 1)) * 2 := by have := (List.getElem?_eq_some_iff.1 hj).1; rw [pr_len] at this; simpa [hn] using this
    rw [if_neg (by omega), Addr.add_lit, World.ownsRow.cellAt hown _ (by omega), e1, List.getElem?_append_right (by omega), hl1, Nat.add_sub_cancel_left]
    exact hj
  · intro u hu
    exact h1 u (by rw [e1]; exact List.mem_append_right _ hu)
  · unfold maxLen; omega
  · rw [hsum]
    have : (n - 1) * by' ≤ 4194304 * 32 := Nat.mul_le_mul (by omega) hby
    omega
  · intro v' w' r1 r2 r3 r4
    rw [hsum] at r1
    have e2 : pr f g (ls.take k) ++ pr f g (ls.drop (k + 1)) = pr f g (ls.eraseIdx k) := by rw [← pr_append, List.eraseIdx_eq_take_drop_succ]
    rw [e2] at r1
    obtain ⟨a', c', e', m1, m2, m3⟩ := own_form r1
    subst e'
    have hne : Value.slice a' (n - 1) c' ≠ .slice none 0 0 := fun e => by have := (r3.1 e).1; cases this
    obtain ⟨b', rfl⟩ : ∃ b', a' = some ⟨b', 0, none⟩ := by
      rcases r1.2 with ⟨e, -⟩ | ⟨b', cap', cur, e, -⟩
      · exact absurd e hne
      · cases e; exact ⟨b', rfl⟩
    have hb' : b' = b ∨ b' = w.heap.size := by
      rcases r4 with e | e
      · left; simpa [Value.ownBlock] using e
      · right; simpa [Value.ownBlock] using e
    exact h b' c' w' r1 r2 hb' (World.ownsRow.lt r1 b' rfl).2 ⟨m1, m2⟩
theorem OwL.one {base : Nat} {w : World} {blk : Option Nat} {lv : List (Value × Value)} {cs : Calls2} (h : OwL base w blk lv cs) (hl : lv.length = cs.length) : ∀ u ∈ pr Prod.fst Prod.snd lv, u.oneCell' = true := by
  intro u hu
  obtain ⟨j, hj, rfl⟩ := List.getElem_of_mem hu
  rw [pr_len] at hj
  obtain ⟨q, e1⟩ : ∃ q, j = q * 2 ∨ j = q * 2 + 1 := ⟨j / 2, by omega⟩
  have hq : q < lv.length := by omega
  have hp := pr_at Prod.fst Prod.snd lv q hq
  obtain ⟨q1, q2, -⟩ := h q hq (by omega)
  obtain ⟨a, c, e, -⟩ := own_form q2
  rcases e1 with rfl | rfl
  · have := hp.1
    rw [q1, List.getElem?_eq_getElem (by rw [pr_len]; omega)] at this
    rw [Option.some.inj this]; rfl
  · have := hp.2
    rw [e, List.getElem?_eq_getElem (by rw [pr_len]; omega)] at this
    rw [Option.some.inj this]; rfl
def leaveM (cs : Calls2) (i : Nat) (p : Bool) (ls : Legs2) : Calls2 := if ls.length = 0 ∨ ls.length < 2 ∧ p = false then (cs.set i (p, ls)).eraseIdx i else cs.set i (p, ls)
set_option maxHeartbeats 3200000 in
theorem leave_c (n : Int) (v : Value) (cs : Calls2) (i k : Nat) (pk : Bool) (base : Nat) (w : World) (h : OwC base w v cs) (hbase : base ≤ w.heap.size) (hi : i < cs.length) (hk : k < cs[i].2.length) (hn : cs.length ≤ 4194304) (hm : cs[i].2.length ≤ 4194304) :
   Calls Try.prog 62 #[.agg #[.int .i64 n, v], .int .i64 i, .int .i64 k, .bool pk] w fun e w' => ∃ v', e = .returned (.agg #[.int .i64 n, v']) ∧ OwC base w' v' (leaveM cs i (cs[i].1 || pk) (cs[i].2.eraseIdx k)) ∧ Below base w w' := by
  obtain ⟨lv, hl, hO, hL⟩ := h
  have hil : i < lv.length := by omega
  obtain ⟨hq1, hq2, hq3, hq4⟩ := hL i hil hi
  obtain ⟨p0, hp0⟩ : ∃ p, cs[i].1 = p := ⟨_, rfl⟩
  obtain ⟨ls, hls⟩ : ∃ p, cs[i].2 = p := ⟨_, rfl⟩
  obtain ⟨x, hx⟩ : ∃ p, lv[i].2 = p := ⟨_, rfl⟩
  obtain ⟨g, cap, rfl, hgb, hgl⟩ := World.ownsRow.form hO (by omega)
  rw [hp0] at hq1
  rw [hx, hls] at hq2
  rw [hx] at hq3
  rw [hls] at hk hm
  rw [hp0, hls]
  obtain ⟨gx, capx, rfl, hxb, hxl⟩ := World.ownsRow.form hq2 (by omega)
  have hO' : w.ownsRow base 45 2 (.slice (some ⟨g, 0, none⟩) lv.length cap) lv.length (pr Prod.fst Prod.snd lv) := hO
  have hp := pr_at Prod.fst Prod.snd lv i hil
  have d0 : w.cell? ⟨g, i * 2, none⟩ = some (.bool p0) := by rw [← hq1]; exact (World.ownsRow.cellAt hO' (i * 2) (by omega)).trans hp.1
  have d1 : w.cell? ⟨g, i * 2 + 1, none⟩ = some (.slice (some ⟨gx, 0, none⟩) ls.length capx) := by rw [← hx]; exact (World.ownsRow.cellAt hO' (i * 2 + 1) (by omega)).trans hp.2
  have hgx : g ≠ gx := by
    rcases hq3 with h | h
    · cases h
    · exact fun e => h (by rw [e]; rfl)
  have hcx : ls.length ≤ capx ∧ capx ≤ 2 ^ 63 - 1 := by
    obtain ⟨a', c', e', m1, m2, -⟩ := own_form hq2
    cases e'; exact ⟨m1, m2⟩
  have hcg : lv.length ≤ cap ∧ cap ≤ 2 ^ 63 - 1 := by
    obtain ⟨a', c', e', m1, m2, -⟩ := own_form hO'
    cases e'; exact ⟨m1, m2⟩
  have hlc : lv.length ≤ 4194304 := by omega
  have HL : Hid (OwL base w (Value.slice (some ⟨g, 0, none⟩) lv.length cap).ownBlock lv cs ∧ w.ownsRow base 45 2 (.slice (some ⟨g, 0, none⟩) lv.length cap) lv.length (pr Prod.fst Prod.snd lv) ∧ Op lf lg 42 base w (.slice (some ⟨gx, 0, none⟩) ls.length capx) ls ∧ lv[i].2 = .slice (some ⟨gx, 0, none⟩) ls.length capx ∧ lv.length = cs.length) := ⟨hL, hO', hq2, hx, hl⟩
  clear hL hO hO' hq1 hq2 hq3 hq4 hx hl hp hp0 hls
  obtain ⟨W0, hW0⟩ : ∃ W0, ((w.alloc (Obj.cells #[.int .i64 n, .slice (some ⟨g, 0, none⟩) lv.length cap] 26)).alloc (Obj.cells #[.int .i64 0, .slice none 0 0] 26)).alloc (Obj.cells #[.bool p0, .slice (some ⟨gx, 0, none⟩) ls.length capx] 45) = W0 := ⟨_, rfl⟩
  have kb : Below w.heap.size w W0 := hW0 ▸ (((Below.refl _ _).alloc (Nat.le_refl _) _).alloc (by simp) _).alloc (by simp; omega) _
  have k0 : Blk W0 w.heap.size #[.int .i64 n, .slice (some ⟨g, 0, none⟩) lv.length cap] 26 := hW0 ▸ ((Blk.newAt _ _ _ 26 rfl).alloc _).alloc _
  have k1 : Blk W0 (w.heap.size + 1) #[.int .i64 0, .slice none 0 0] 26 := hW0 ▸ (Blk.newAt _ _ _ 26 (by simp)).alloc _
  have k2 : Blk W0 (w.heap.size + 1 + 1) #[.bool p0, .slice (some ⟨gx, 0, none⟩) ls.length capx] 45 := hW0 ▸ Blk.newAt _ _ _ 45 (by simp)
  have hs0 : W0.heap.size = w.heap.size + 3 := by rw [← hW0]; simp
  have HW : Hid (((w.alloc (Obj.cells #[.int .i64 n, .slice (some ⟨g, 0, none⟩) lv.length cap] 26)).alloc (Obj.cells #[.int .i64 0, .slice none 0 0] 26)).alloc (Obj.cells #[.bool p0, .slice (some ⟨gx, 0, none⟩) ls.length capx] 45) = W0) := hW0
  have L0 : Hid (OwL base W0 (some g) lv cs) := HL.out.1.grown (below_grown kb) (.inl rfl)
  have O0 : Hid (W0.ownsRow base 45 2 (.slice (some ⟨g, 0, none⟩) lv.length cap) lv.length (pr Prod.fst Prod.snd lv)) := World.ownsRow.kept HL.out.2.1 (below_grown kb) (.inr (by simp [Value.ownBlock]))
  have X0 : Hid (W0.ownsRow base 42 2 (.slice (some ⟨gx, 0, none⟩) ls.length capx) ls.length (pr lf lg ls)) := World.ownsRow.kept HL.out.2.2.1 (below_grown kb) (.inr (by simp [Value.ownBlock]))
  have HX : Hid (lv[i].2 = .slice (some ⟨gx, 0, none⟩) ls.length capx ∧ lv.length = cs.length) := HL.out.2.2.2
  have K0 : Hid (Blk W0 w.heap.size #[.int .i64 n, .slice (some ⟨g, 0, none⟩) lv.length cap] 26) := k0
  have K1 : Hid (Blk W0 (w.heap.size + 1) #[.int .i64 0, .slice none 0 0] 26) := k1
  have K2 : Hid (Blk W0 (w.heap.size + 1 + 1) #[.bool p0, .slice (some ⟨gx, 0, none⟩) ls.length capx] 45) := k2
  have KB : Hid (Below w.heap.size w W0) := kb
  have HALL : Hid (∀ t (ht : t < lv.length) k, lv[t].2.ownBlock = some k → k < w.heap.size) := fun t ht k e => (World.ownsRow.lt (HL.out.1 t ht (by have := HL.out.2.2.2.2; omega)).2.1 k e).2
  clear hW0 k0 k1 k2 kb HL
  go_enter Try.func62, Try.ntmps62
  go_wp2
  rw [HW.out]
  clear HW d0 d1
  have t0 : W0.cell? ⟨w.heap.size + 1 + 1, 1, none⟩ = some (.slice (some ⟨gx, 0, none⟩) ls.length capx) := by have := K2.out.cell 1; simpa using this
  obtain ⟨S, hS⟩ : ∃ S : World → Prop, ∀ W, S W ↔ W.cell? ⟨w.heap.size + 1 + 1, 1, none⟩ = some (.slice (some ⟨gx, 0, none⟩) ls.length capx) := ⟨_, fun _ => Iff.rfl⟩
  have z0 : ∀ W : At S, W.wd.cell? ⟨w.heap.size + 1 + 1, 1, none⟩ = some (.slice (some ⟨gx, 0, none⟩) ls.length capx) := fun W => (hS _).1 W.ok
  have HSI : Hid (∀ W, W.cell? ⟨w.heap.size + 1 + 1, 1, none⟩ = some (.slice (some ⟨gx, 0, none⟩) ls.length capx) → S W) := fun W h => (hS W).2 h
  have ne2 : Nonempty (At S) := ⟨⟨W0, HSI.out _ t0⟩⟩
  have T0 : Hid (W0.cell? ⟨w.heap.size + 1 + 1, 1, none⟩ = some (.slice (some ⟨gx, 0, none⟩) ls.length capx)) := t0
  clear hS t0
  refine region_mixA [true, true, true, true, true, true, true, true, true, false, false, false] 10 1 S (by kernel_rfl) rfl (by kernel_rfl) (fun _ _ _ _ _ h => h) (HSI.out _ T0.out) ?_
  simp only [selT, selF]
  repeat (go_big_quiet_step (fail))
  refine wpQuiet_nil ?_
  obtain ⟨ad, had⟩ : ∃ ad, (if capx = k + 1 then some (⟨gx, 0, none⟩ : Addr) else some ⟨gx, (k + 1) * 2, none⟩) = ad := ⟨_, rfl⟩
  rw [had]
  have HAD : Hid _ := had
  clear had
  refine tail_step ?_
  go_wp2_with (at_builtin; refine appCut Try.underlying43 infoLeg rfl (by decide) rfl _ _ rfl base gx ls.length capx k ls (World.ownsRow.drew X0.out) rfl hk hm rfl ad HAD.out rfl pr_one (by show base ≤ W0.heap.size; omega) ?_)
  intro b1 c1 w1 x1 hg1 hb1 hbl1 hc1 hc2
  have u1 : w1.cell? ⟨w.heap.size + 1 + 1, 1, none⟩ = some (.slice (some ⟨gx, 0, none⟩) ls.length capx) := by
    rw [hg1.cell_far _ (by show _ < W0.heap.size; dsimp only; omega) (by dsimp only; simp; omega)]; exact T0.out
  have hs1 : W0.heap.size ≤ w1.heap.size := hg1.size
  have m0 : Blk w1 w.heap.size #[.int .i64 n, .slice (some ⟨g, 0, none⟩) lv.length cap] 26 := (hg1.block w.heap.size (by show _ < W0.heap.size; omega) (by simp; omega)).trans K0.out
  have m1 : Blk w1 (w.heap.size + 1) #[.int .i64 0, .slice none 0 0] 26 := (hg1.block (w.heap.size + 1) (by show _ < W0.heap.size; omega) (by simp; omega)).trans K1.out
  have m2 : Blk w1 (w.heap.size + 1 + 1) #[.bool p0, .slice (some ⟨gx, 0, none⟩) ls.length capx] 45 := (hg1.block (w.heap.size + 1 + 1) (by show _ < W0.heap.size; omega) (by simp; omega)).trans K2.out
  have o1 : w1.ownsRow base 45 2 (.slice (some ⟨g, 0, none⟩) lv.length cap) lv.length (pr Prod.fst Prod.snd lv) := World.ownsRow.kept (World.ownsRow.drew O0.out) hg1 (.inr (by simp [Value.ownBlock]; exact hgx))
  have l1 : OwL base w1 (some g) (lv.set i (.bool (p0 || pk), .slice (some ⟨b1, 0, none⟩) (ls.length - 1) c1)) (cs.set i (p0 || pk, ls.eraseIdx k)) := by
    refine OwL.put (w1 := W0.drew) (L0.out.grown ⟨rfl, rfl, rfl, Nat.le_refl _, fun _ _ _ => rfl⟩ (.inl rfl)) hil hi HX.out.2 (p0 || pk) _ (ls.eraseIdx k) (by rw [HX.out.1]; exact hg1) ?_ ?_ ?_
    · rw [Op, List.length_eraseIdx_of_lt hk]; exact x1
    · rw [HX.out.1]
      rcases hb1 with e | e
      · left; rw [e]; rfl
      · right; intro k e2; rw [e] at e2; cases e2; show W0.heap.size ≤ _; dsimp only; omega
    · intro k e; cases e; show _ < W0.heap.size; omega
  have KB1 : Below base w w1 := (KB.out.mono hbase).trans <| (Below.refl base W0).drew.trans (grown_below (w := W0.drew) hg1 (by show base ≤ W0.heap.size; omega) (fun k e => by cases e; exact hxb))
  obtain ⟨m, hmm⟩ : ∃ m, ls.length - 1 = m := ⟨_, rfl⟩
  obtain ⟨pp, hpp⟩ : ∃ pp, (p0 || pk) = pp := ⟨_, rfl⟩
  have hlm : (ls.eraseIdx k).length = m := by rw [List.length_eraseIdx_of_lt hk]; exact hmm
  rw [hmm] at l1 ⊢
  have hmc : m ≤ c1 ∧ c1 ≤ 9223372036854775807 ∧ m ≤ 4194304 := by omega
  rw [hpp] at l1
  have s0' := m2.cell 0
  have s1' := m2.cell 1
  have sf0 := m2.frozen 0
  have sf1 := m2.frozen 1
  have sc := m0.cell 1
  simp at s0' s1' sc
  have hp := pr_at Prod.fst Prod.snd lv i hil
  obtain ⟨y0, sg0⟩ : ∃ u, w1.cell? ⟨g, i * 2, none⟩ = some u := ⟨_, (World.ownsRow.cellAt o1 (i * 2) (by omega)).trans hp.1⟩
  obtain ⟨y1, sg1⟩ : ∃ u, w1.cell? ⟨g, i * 2 + 1, none⟩ = some u := ⟨_, (World.ownsRow.cellAt o1 (i * 2 + 1) (by omega)).trans hp.2⟩
  have gf0 := World.ownsRow.frozenAt o1 (i * 2)
  have gf1 := World.ownsRow.frozenAt o1 (i * 2 + 1)
  have n2 : ¬ g = w.heap.size + 1 + 1 := by omega
  have n3 : ¬ w.heap.size + 1 + 1 = g := by omega
  have n4 : ¬ w.heap.size = g := by omega
  have n5 : ¬ g = w.heap.size := by omega
  have hall : ∀ q, w.heap.size ≤ q → q < w.heap.size + 3 → ∀ y ∈ lv.set i (.bool pp, .slice (some ⟨b1, 0, none⟩) m c1), y.2.ownBlock ≠ some q := fun q hq1 hq2 y hy e => by
    rcases List.mem_or_eq_of_mem_set hy with hy | rfl
    · obtain ⟨t, ht, rfl⟩ := List.getElem_of_mem hy
      have := HALL.out t ht _ e; omega
    · have : b1 = q := by simpa [Value.ownBlock] using e
      omega
  have hall2 := hall (w.heap.size + 1 + 1) (by omega) (by omega)
  have HAL : Hid (∀ q, w.heap.size ≤ q → q < w.heap.size + 3 → ∀ y ∈ lv.set i (.bool pp, .slice (some ⟨b1, 0, none⟩) m c1), y.2.ownBlock ≠ some q) := hall
  have E3 : Hid (∀ W3, (((w1.setCell ⟨w.heap.size + 1 + 1, 1, none⟩ (.slice (some ⟨b1, 0, none⟩) m c1)).setCell ⟨w.heap.size + 1 + 1, 0, none⟩ (.bool pp)).setCell ⟨g, i * 2, none⟩ (.bool pp)).setCell ⟨g, i * 2 + 1, none⟩ (.slice (some ⟨b1, 0, none⟩) m c1) = W3 →
      Blk W3 w.heap.size #[.int .i64 n, .slice (some ⟨g, 0, none⟩) lv.length cap] 26 ∧ Blk W3 (w.heap.size + 1) #[.int .i64 0, .slice none 0 0] 26 ∧ Blk W3 (w.heap.size + 1 + 1) #[.bool pp, .slice (some ⟨b1, 0, none⟩) m c1] 45 ∧
      W3.ownsRow base 45 2 (.slice (some ⟨g, 0, none⟩) lv.length cap) lv.length (pr Prod.fst Prod.snd (lv.set i (.bool pp, .slice (some ⟨b1, 0, none⟩) m c1))) ∧ OwL base W3 (some g) (lv.set i (.bool pp, .slice (some ⟨b1, 0, none⟩) m c1)) (cs.set i (pp, ls.eraseIdx k)) ∧ Below base w W3 ∧ W3.heap.size = w1.heap.size) := by
    rintro _ rfl
    refine ⟨(((m0.other _ _ (by dsimp only; omega)).other _ _ (by dsimp only; omega)).other _ _ n4).other _ _ n4, (((m1.other _ _ (by dsimp only; omega)).other _ _ (by dsimp only; omega)).other _ _ (by dsimp only; omega)).other _ _ (by dsimp only; omega), ?_, ?_, ?_, ?_, by simp⟩
    · have := ((m2.set 1 (.slice (some ⟨b1, 0, none⟩) m c1)).set 0 (.bool pp))
      simp only [List.setIfInBounds_toArray, List.set_cons_succ, List.set_cons_zero] at this
      exact (this.other _ _ n3).other _ _ n3
    · have q : w1.ownsRow base 45 2 (.slice (some ⟨g, 0, none⟩) lv.length cap) lv.length (pr Prod.fst Prod.snd lv) := o1
      have q1 := World.ownsRow.kept q (grown_set w1 (w.heap.size + 1 + 1) 1 (.slice (some ⟨b1, 0, none⟩) m c1)) (.inr (by simp [Value.ownBlock]; exact n2))
      have q2 := World.ownsRow.kept q1 (grown_set _ (w.heap.size + 1 + 1) 0 (.bool pp)) (.inr (by simp [Value.ownBlock]; exact n2))
      have := own_set2 (f := Prod.fst) (g := Prod.snd) q2 i hil (Value.bool pp, .slice (some ⟨b1, 0, none⟩) m c1)
      rw [Op, List.length_set] at this
      exact this
    · exact (((l1.off (grown_set _ _ _ _) hall2).off (grown_set _ _ _ _) hall2).grown (grown_set _ _ _ _) (.inr rfl)).grown (grown_set _ _ _ _) (.inr rfl)
    · exact (((KB1.setCell (by dsimp only; omega) _).setCell (by dsimp only; omega) _).setCell hgb _).setCell hgb _
  have U1 : Hid (S w1) := HSI.out _ u1
  have HPP : Hid ((p0 || pk) = pp) := hpp
  have HLM : Hid ((ls.eraseIdx k).length = m) := hlm
  have HLV : Hid (lv.length = cs.length) := HX.out.2
  have hs1' : w.heap.size + 3 ≤ w1.heap.size := by omega
  have sc0 := m0.cell 0
  have sb0 := m1.cell 0
  have sb1 := m1.cell 1
  have sbf0 := m1.frozen 0
  have sbf1 := m1.frozen 1
  simp at sc0 sb0 sb1
  have n6 : ¬ w.heap.size + 1 = g := by omega
  have n7 : ¬ g = w.heap.size + 1 := by omega
  have END : Hid (¬ (m = 0 ∨ m < 2 ∧ pp = false) → ∀ W4, (((((w1.setCell ⟨w.heap.size + 1 + 1, 1, none⟩ (.slice (some ⟨b1, 0, none⟩) m c1)).setCell ⟨w.heap.size + 1 + 1, 0, none⟩ (.bool pp)).setCell ⟨g, i * 2, none⟩ (.bool pp)).setCell ⟨g, i * 2 + 1, none⟩ (.slice (some ⟨b1, 0, none⟩) m c1)).setCell ⟨w.heap.size + 1, 0, none⟩ (.int .i64 n)).setCell ⟨w.heap.size + 1, 1, none⟩ (.slice (some ⟨g, 0, none⟩) lv.length cap) = W4 →
      Blk W4 (w.heap.size + 1) #[.int .i64 n, .slice (some ⟨g, 0, none⟩) lv.length cap] 26 ∧ OwC base W4 (.slice (some ⟨g, 0, none⟩) lv.length cap) (leaveM cs i pp (ls.eraseIdx k)) ∧ Below base w W4) := by
    rintro hno _ rfl
    obtain ⟨f0, f1, f2, f3, f4, f5, f6⟩ := E3.out _ rfl
    have hh := hall (w.heap.size + 1) (by omega) (by omega)
    refine ⟨?_, ?_, (f5.setCell (by dsimp only; omega) _).setCell (by dsimp only; omega) _⟩
    · have := (f1.set 0 (.int .i64 n)).set 1 (.slice (some ⟨g, 0, none⟩) lv.length cap)
      simpa using this
    · rw [leaveM, hlm, if_neg hno]
      refine ⟨_, by simp [HLV.out], ?_, (f4.off (grown_set _ _ _ _) hh).off (grown_set _ _ _ _) hh⟩
      rw [Op, List.length_set]
      exact World.ownsRow.kept (World.ownsRow.kept f3 (grown_set _ _ _ _) (.inr (by simp [Value.ownBlock]; exact n7))) (grown_set _ _ _ _) (.inr (by simp [Value.ownBlock]; exact n7))
  have hlen1 : (lv.set i (.bool pp, .slice (some ⟨b1, 0, none⟩) m c1)).length = lv.length := List.length_set ..
  have E6 : Hid (∀ W3, ((((w1.setCell ⟨w.heap.size + 1 + 1, 1, none⟩ (.slice (some ⟨b1, 0, none⟩) m c1)).setCell ⟨w.heap.size + 1 + 1, 0, none⟩ (.bool pp)).setCell ⟨g, i * 2, none⟩ (.bool pp)).setCell ⟨g, i * 2 + 1, none⟩ (.slice (some ⟨b1, 0, none⟩) m c1)) = W3 → (W3.cell? ⟨w.heap.size, 0, none⟩ = some (.int .i64 n) ∧ W3.cell? ⟨w.heap.size, 1, none⟩ = some (.slice (some ⟨g, 0, none⟩) lv.length cap) ∧ w.heap.size + 3 ≤ W3.heap.size) ∧ (∀ u ∈ pr Prod.fst Prod.snd (lv.set i (.bool pp, .slice (some ⟨b1, 0, none⟩) m c1)), u.oneCell' = true) ∧
      W3.drew.ownsRow base 45 2 (.slice (some ⟨g, 0, none⟩) lv.length cap) lv.length (pr Prod.fst Prod.snd (lv.set i (.bool pp, .slice (some ⟨b1, 0, none⟩) m c1))) ∧
      ∀ b4 c4 w4, w4.ownsRow base 45 2 (.slice (some ⟨b4, 0, none⟩) (lv.length - 1) c4) (lv.length - 1) (pr Prod.fst Prod.snd ((lv.set i (.bool pp, .slice (some ⟨b1, 0, none⟩) m c1)).eraseIdx i)) → W3.drew.grownBy w4 (some g) → (b4 = g ∨ b4 = W3.heap.size) →
        (w4.cell? ⟨w.heap.size, 0, none⟩ = some (.int .i64 n) ∧ w4.cell? ⟨w.heap.size, 1, none⟩ = some (.slice (some ⟨g, 0, none⟩) lv.length cap) ∧ w4.frozen? ⟨w.heap.size, 1, none⟩ = false ∧ w4.cell? ⟨w.heap.size + 1, 0, none⟩ = some (.int .i64 0) ∧ w4.cell? ⟨w.heap.size + 1, 1, none⟩ = some (.slice none 0 0) ∧ w4.frozen? ⟨w.heap.size + 1, 0, none⟩ = false ∧ w4.frozen? ⟨w.heap.size + 1, 1, none⟩ = false) ∧
        ((m = 0 ∨ m < 2 ∧ pp = false) → ∀ W4, ((w4.setCell ⟨w.heap.size, 1, none⟩ (.slice (some ⟨b4, 0, none⟩) (lv.length - 1) c4)).setCell ⟨w.heap.size + 1, 0, none⟩ (.int .i64 n)).setCell ⟨w.heap.size + 1, 1, none⟩ (.slice (some ⟨b4, 0, none⟩) (lv.length - 1) c4) = W4 →
          Blk W4 (w.heap.size + 1) #[.int .i64 n, .slice (some ⟨b4, 0, none⟩) (lv.length - 1) c4] 26 ∧ OwC base W4 (.slice (some ⟨b4, 0, none⟩) (lv.length - 1) c4) (leaveM cs i pp (ls.eraseIdx k)) ∧ Below base w W4)) := by
    intro W3 hW3
    obtain ⟨f0, f1, f2, f3, f4, f5, f6⟩ := E3.out W3 hW3
    have j0 := f0.cell 0
    have j1 := f0.cell 1
    simp at j0 j1
    refine ⟨⟨j0, j1, by omega⟩, f4.one (by simp [HLV.out]), World.ownsRow.drew f3, fun b4 c4 w4 r1 r2 r3 => ?_⟩
    have r0 : Blk w4 w.heap.size _ _ := (r2.block w.heap.size (by show _ < W3.heap.size; omega) (by simp; omega)).trans f0
    have r0' : Blk w4 (w.heap.size + 1) _ _ := (r2.block (w.heap.size + 1) (by show _ < W3.heap.size; omega) (by simp; omega)).trans f1
    have i0 := r0.cell 0
    have i1 := r0.cell 1
    have i2 := r0'.cell 0
    have i3 := r0'.cell 1
    simp at i0 i1 i2 i3
    refine ⟨⟨i0, i1, r0.frozen 1, i2, i3, r0'.frozen 0, r0'.frozen 1⟩, ?_⟩
    rintro hyes _ rfl
    have hb4 : b4 ≠ w.heap.size ∧ b4 ≠ w.heap.size + 1 := by omega
    have h0 : ∀ y ∈ (lv.set i (.bool pp, .slice (some ⟨b1, 0, none⟩) m c1)).eraseIdx i, y.2.ownBlock ≠ some w.heap.size := fun y hy => hall w.heap.size (by omega) (by omega) y (List.mem_of_mem_eraseIdx hy)
    have h1 : ∀ y ∈ (lv.set i (.bool pp, .slice (some ⟨b1, 0, none⟩) m c1)).eraseIdx i, y.2.ownBlock ≠ some (w.heap.size + 1) := fun y hy => hall (w.heap.size + 1) (by omega) (by omega) y (List.mem_of_mem_eraseIdx hy)
    have hse : ((lv.set i (.bool pp, .slice (some ⟨b1, 0, none⟩) m c1)).eraseIdx i).length = lv.length - 1 := by rw [List.length_eraseIdx_of_lt (by omega), hlen1]
    refine ⟨?_, ?_, ?_⟩
    · have := ((r0'.other ⟨w.heap.size, 1, none⟩ (.slice (some ⟨b4, 0, none⟩) (lv.length - 1) c4) (by dsimp only; omega)).set 0 (.int .i64 n)).set 1 (.slice (some ⟨b4, 0, none⟩) (lv.length - 1) c4)
      simpa using this
    · rw [leaveM, hlm, if_pos hyes]
      have L4 : OwL base w4 (some b4) ((lv.set i (.bool pp, .slice (some ⟨b1, 0, none⟩) m c1)).eraseIdx i) ((cs.set i (pp, ls.eraseIdx k)).eraseIdx i) := by
        refine OwL.reblk (w := W3.drew) ((f4.erase (by simp [HLV.out]) i).grown ⟨rfl, rfl, rfl, Nat.le_refl _, fun _ _ _ => rfl⟩ (.inl rfl)) ?_ r2 ?_
        · rw [hse, List.length_eraseIdx_of_lt (by simpa using hi)]; simp [HLV.out]
        · rcases r3 with e | e
          · left; rw [e]
          · right; rw [e]; rfl
      refine ⟨_, ?_, ?_, ((L4.off (grown_set _ _ _ _) h0).off (grown_set _ _ _ _) h1).off (grown_set _ _ _ _) h1⟩
      · rw [hse, List.length_eraseIdx_of_lt (by simpa using hi)]; simp [HLV.out]
      · rw [Op, hse]
        exact World.ownsRow.kept (World.ownsRow.kept (World.ownsRow.kept r1 (grown_set _ _ _ _) (.inr (by simp [Value.ownBlock]; omega))) (grown_set _ _ _ _) (.inr (by simp [Value.ownBlock]; omega))) (grown_set _ _ _ _) (.inr (by simp [Value.ownBlock]; omega))
    · exact (((f5.trans <| (Below.refl base W3).drew.trans (grown_below (w := W3.drew) r2 (by show base ≤ W3.heap.size; omega) (fun k e => by cases e; exact hgb))).setCell (by dsimp only; omega) _).setCell (by dsimp only; omega) _).setCell (by dsimp only; omega) _
  clear x1 hg1 hb1 hbl1 m0 m1 m2 o1 l1 KB1 hp K0 K1 K2 X0 O0 L0 KB hpp hlm hmm T0 u1 HALL hall hall2 HAL E3 HX
  go_wp2
  refine ⟨U1.out, tail_end ?_⟩
  cases p0
  · obtain rfl : pp = pk := HPP.out.symm
    by_cases q0 : m = 0
    · subst q0
      go_wp2
      obtain ⟨W3, hW3⟩ : ∃ W3, (((w1.setCell ⟨w.heap.size + 1 + 1, 1, none⟩ (.slice (some ⟨b1, 0, none⟩) 0 c1)).setCell ⟨w.heap.size + 1 + 1, 0, none⟩ (.bool pp)).setCell ⟨g, i * 2, none⟩ (.bool pp)).setCell ⟨g, i * 2 + 1, none⟩ (.slice (some ⟨b1, 0, none⟩) 0 c1) = W3 := ⟨_, rfl⟩
      rw [hW3]
      obtain ⟨⟨j0, j1, j2⟩, hone, hrow, hfin⟩ := E6.out W3 hW3
      have HFIN : Hid _ := hfin
      have HROW : Hid _ := hrow
      have HONE : Hid _ := hone
      have HHH : Hid (W3.cell? ⟨w.heap.size, 1, none⟩ = some (.slice (some ⟨g, 0, none⟩) lv.length cap)) := j1
      obtain ⟨S2, hS2⟩ : ∃ S : World → Prop, ∀ W, S W ↔ W.cell? ⟨w.heap.size, 1, none⟩ = some (.slice (some ⟨g, 0, none⟩) lv.length cap) := ⟨_, fun _ => Iff.rfl⟩
      have z2 : ∀ W : At S2, W.wd.cell? ⟨w.heap.size, 1, none⟩ = some (.slice (some ⟨g, 0, none⟩) lv.length cap) := fun W => (hS2 _).1 W.ok
      have HSI2 : Hid (∀ W, W.cell? ⟨w.heap.size, 1, none⟩ = some (.slice (some ⟨g, 0, none⟩) lv.length cap) → S2 W) := fun W h => (hS2 W).2 h
      have ne3 : Nonempty (At S2) := ⟨⟨W3, HSI2.out _ j1⟩⟩
      clear hW3 hS2 hfin hrow hone j0 j1 sc sc0 sb0 sb1 sbf0 sbf1 s0' s1' sf0 sf1 sg0 sg1 gf0 gf1 E6 END U1 z0 ne2
      refine region_mixA [true, true, true, true, true, true, true, true, true, false, false, false] 10 1 S2 (by kernel_rfl) rfl (by kernel_rfl) (fun _ _ _ _ _ h => h) (HSI2.out _ HHH.out) ?_
      simp only [selT, selF]
      repeat (go_big_quiet_step (fail))
      refine wpQuiet_nil ?_
      obtain ⟨ad2, had2⟩ : ∃ ad, (if cap = i + 1 then some (⟨g, 0, none⟩ : Addr) else some ⟨g, (i + 1) * 2, none⟩) = ad := ⟨_, rfl⟩
      rw [had2]
      have HAD2 : Hid _ := had2
      clear had2
      refine tail_step ?_
      go_wp2_with (at_builtin; refine appCut Try.underlying24 infoCall rfl (by decide) rfl _ _ rfl base g lv.length cap i _ HROW.out (List.length_set ..) hil hlc rfl ad2 HAD2.out rfl HONE.out (by show base ≤ W3.heap.size; omega) ?_)
      intro b4 c4 w4 x4 hg4 hb4 hbl4 hc4 hc5
      obtain ⟨⟨i0, i1, i2, i3, i4, i5, i6⟩, hend⟩ := HFIN.out b4 c4 w4 x4 hg4 (by simpa using hb4)
      have HEND : Hid _ := hend (by simp)
      have U4 : Hid (S2 w4) := HSI2.out _ i1
      clear x4 hg4 hb4 hbl4 hend HFIN HROW HONE HHH
      go_wp2
      refine ⟨U4.out, tail_end ?_⟩
      go_wp2
      exact bodyPost_ret (v := .agg #[.int .i64 n, .slice (some ⟨b4, 0, none⟩) (lv.length - 1) c4]) (results_cell_row rfl _ _ _ 26 _ (0, 0) _ rfl (HEND.out _ rfl).1 Try.underlying26 rfl size26') rfl ⟨_, rfl, (HEND.out _ rfl).2⟩
    · have q0' : ¬ ((m : Int) = 0) := by omega
      by_cases q1 : m < 2
      · obtain rfl : m = 1 := by omega
        cases pp
        · clear q0 q0' q1
          go_wp2
          obtain ⟨W3, hW3⟩ : ∃ W3, (((w1.setCell ⟨w.heap.size + 1 + 1, 1, none⟩ (.slice (some ⟨b1, 0, none⟩) 1 c1)).setCell ⟨w.heap.size + 1 + 1, 0, none⟩ (.bool false)).setCell ⟨g, i * 2, none⟩ (.bool false)).setCell ⟨g, i * 2 + 1, none⟩ (.slice (some ⟨b1, 0, none⟩) 1 c1) = W3 := ⟨_, rfl⟩
          rw [hW3]
          obtain ⟨⟨j0, j1, j2⟩, hone, hrow, hfin⟩ := E6.out W3 hW3
          have HFIN : Hid _ := hfin
          have HROW : Hid _ := hrow
          have HONE : Hid _ := hone
          have HHH : Hid (W3.cell? ⟨w.heap.size, 1, none⟩ = some (.slice (some ⟨g, 0, none⟩) lv.length cap)) := j1
          obtain ⟨S2, hS2⟩ : ∃ S : World → Prop, ∀ W, S W ↔ W.cell? ⟨w.heap.size, 1, none⟩ = some (.slice (some ⟨g, 0, none⟩) lv.length cap) := ⟨_, fun _ => Iff.rfl⟩
          have z2 : ∀ W : At S2, W.wd.cell? ⟨w.heap.size, 1, none⟩ = some (.slice (some ⟨g, 0, none⟩) lv.length cap) := fun W => (hS2 _).1 W.ok
          have HSI2 : Hid (∀ W, W.cell? ⟨w.heap.size, 1, none⟩ = some (.slice (some ⟨g, 0, none⟩) lv.length cap) → S2 W) := fun W h => (hS2 W).2 h
          have ne3 : Nonempty (At S2) := ⟨⟨W3, HSI2.out _ j1⟩⟩
          clear hW3 hS2 hfin hrow hone j0 j1 sc sc0 sb0 sb1 sbf0 sbf1 s0' s1' sf0 sf1 sg0 sg1 gf0 gf1 E6 END U1 z0 ne2
          refine region_mixA [true, true, true, true, true, true, true, true, true, false, false, false] 10 1 S2 (by kernel_rfl) rfl (by kernel_rfl) (fun _ _ _ _ _ h => h) (HSI2.out _ HHH.out) ?_
          simp only [selT, selF]
          repeat (go_big_quiet_step (fail))
          refine wpQuiet_nil ?_
          obtain ⟨ad2, had2⟩ : ∃ ad, (if cap = i + 1 then some (⟨g, 0, none⟩ : Addr) else some ⟨g, (i + 1) * 2, none⟩) = ad := ⟨_, rfl⟩
          rw [had2]
          have HAD2 : Hid _ := had2
          clear had2
          refine tail_step ?_
          go_wp2_with (at_builtin; refine appCut Try.underlying24 infoCall rfl (by decide) rfl _ _ rfl base g lv.length cap i _ HROW.out (List.length_set ..) hil hlc rfl ad2 HAD2.out rfl HONE.out (by show base ≤ W3.heap.size; omega) ?_)
          intro b4 c4 w4 x4 hg4 hb4 hbl4 hc4 hc5
          obtain ⟨⟨i0, i1, i2, i3, i4, i5, i6⟩, hend⟩ := HFIN.out b4 c4 w4 x4 hg4 (by simpa using hb4)
          have HEND : Hid _ := hend (by simp)
          have U4 : Hid (S2 w4) := HSI2.out _ i1
          clear x4 hg4 hb4 hbl4 hend HFIN HROW HONE HHH
          go_wp2
          refine ⟨U4.out, tail_end ?_⟩
          go_wp2
          exact bodyPost_ret (v := .agg #[.int .i64 n, .slice (some ⟨b4, 0, none⟩) (lv.length - 1) c4]) (results_cell_row rfl _ _ _ 26 _ (0, 0) _ rfl (HEND.out _ rfl).1 Try.underlying26 rfl size26') rfl ⟨_, rfl, (HEND.out _ rfl).2⟩
        · clear q0 q0' q1
          go_wp2
          exact bodyPost_ret (v := .agg #[.int .i64 n, .slice (some ⟨g, 0, none⟩) lv.length cap]) (results_cell_row rfl _ _ _ 26 _ (0, 0) _ rfl (END.out (by simp) _ rfl).1 Try.underlying26 rfl size26') rfl ⟨_, rfl, (END.out (by simp) _ rfl).2⟩
      · have q1' : ¬ ((m : Int) < 2) := by omega
        have HNO : Hid (¬ (m = 0 ∨ m < 2 ∧ pp = false)) := fun h => by rcases h with h | h <;> omega
        go_wp2
        exact bodyPost_ret (v := .agg #[.int .i64 n, .slice (some ⟨g, 0, none⟩) lv.length cap]) (results_cell_row rfl _ _ _ 26 _ (0, 0) _ rfl (END.out (HNO.out) _ rfl).1 Try.underlying26 rfl size26') rfl ⟨_, rfl, (END.out (HNO.out) _ rfl).2⟩
  · obtain rfl : pp = true := HPP.out.symm
    by_cases q0 : m = 0
    · subst q0
      go_wp2
      obtain ⟨W3, hW3⟩ : ∃ W3, (((w1.setCell ⟨w.heap.size + 1 + 1, 1, none⟩ (.slice (some ⟨b1, 0, none⟩) 0 c1)).setCell ⟨w.heap.size + 1 + 1, 0, none⟩ (.bool true)).setCell ⟨g, i * 2, none⟩ (.bool true)).setCell ⟨g, i * 2 + 1, none⟩ (.slice (some ⟨b1, 0, none⟩) 0 c1) = W3 := ⟨_, rfl⟩
      rw [hW3]
      obtain ⟨⟨j0, j1, j2⟩, hone, hrow, hfin⟩ := E6.out W3 hW3
      have HFIN : Hid _ := hfin
      have HROW : Hid _ := hrow
      have HONE : Hid _ := hone
      have HHH : Hid (W3.cell? ⟨w.heap.size, 1, none⟩ = some (.slice (some ⟨g, 0, none⟩) lv.length cap)) := j1
      obtain ⟨S2, hS2⟩ : ∃ S : World → Prop, ∀ W, S W ↔ W.cell? ⟨w.heap.size, 1, none⟩ = some (.slice (some ⟨g, 0, none⟩) lv.length cap) := ⟨_, fun _ => Iff.rfl⟩
      have z2 : ∀ W : At S2, W.wd.cell? ⟨w.heap.size, 1, none⟩ = some (.slice (some ⟨g, 0, none⟩) lv.length cap) := fun W => (hS2 _).1 W.ok
      have HSI2 : Hid (∀ W, W.cell? ⟨w.heap.size, 1, none⟩ = some (.slice (some ⟨g, 0, none⟩) lv.length cap) → S2 W) := fun W h => (hS2 W).2 h
      have ne3 : Nonempty (At S2) := ⟨⟨W3, HSI2.out _ j1⟩⟩
      clear hW3 hS2 hfin hrow hone j0 j1 sc sc0 sb0 sb1 sbf0 sbf1 s0' s1' sf0 sf1 sg0 sg1 gf0 gf1 E6 END U1 z0 ne2
      refine region_mixA [true, true, true, true, true, true, true, true, true, false, false, false] 10 1 S2 (by kernel_rfl) rfl (by kernel_rfl) (fun _ _ _ _ _ h => h) (HSI2.out _ HHH.out) ?_
      simp only [selT, selF]
      repeat (go_big_quiet_step (fail))
      refine wpQuiet_nil ?_
      obtain ⟨ad2, had2⟩ : ∃ ad, (if cap = i + 1 then some (⟨g, 0, none⟩ : Addr) else some ⟨g, (i + 1) * 2, none⟩) = ad := ⟨_, rfl⟩
      rw [had2]
      have HAD2 : Hid _ := had2
      clear had2
      refine tail_step ?_
      go_wp2_with (at_builtin; refine appCut Try.underlying24 infoCall rfl (by decide) rfl _ _ rfl base g lv.length cap i _ HROW.out (List.length_set ..) hil hlc rfl ad2 HAD2.out rfl HONE.out (by show base ≤ W3.heap.size; omega) ?_)
      intro b4 c4 w4 x4 hg4 hb4 hbl4 hc4 hc5
      obtain ⟨⟨i0, i1, i2, i3, i4, i5, i6⟩, hend⟩ := HFIN.out b4 c4 w4 x4 hg4 (by simpa using hb4)
      have HEND : Hid _ := hend (by simp)
      have U4 : Hid (S2 w4) := HSI2.out _ i1
      clear x4 hg4 hb4 hbl4 hend HFIN HROW HONE HHH
      go_wp2
      refine ⟨U4.out, tail_end ?_⟩
      go_wp2
      exact bodyPost_ret (v := .agg #[.int .i64 n, .slice (some ⟨b4, 0, none⟩) (lv.length - 1) c4]) (results_cell_row rfl _ _ _ 26 _ (0, 0) _ rfl (HEND.out _ rfl).1 Try.underlying26 rfl size26') rfl ⟨_, rfl, (HEND.out _ rfl).2⟩
    · have q0' : ¬ ((m : Int) = 0) := by omega
      by_cases q1 : m < 2
      · obtain rfl : m = 1 := by omega
        clear q0 q0' q1
        go_wp2
        exact bodyPost_ret (v := .agg #[.int .i64 n, .slice (some ⟨g, 0, none⟩) lv.length cap]) (results_cell_row rfl _ _ _ 26 _ (0, 0) _ rfl (END.out (by simp) _ rfl).1 Try.underlying26 rfl size26') rfl ⟨_, rfl, (END.out (by simp) _ rfl).2⟩
      · have q1' : ¬ ((m : Int) < 2) := by omega
        have HNO : Hid (¬ (m = 0 ∨ m < 2 ∧ true = false)) := fun h => by rcases h with h | h <;> omega
        go_wp2
        exact bodyPost_ret (v := .agg #[.int .i64 n, .slice (some ⟨g, 0, none⟩) lv.length cap]) (results_cell_row rfl _ _ _ 26 _ (0, 0) _ rfl (END.out (HNO.out) _ rfl).1 Try.underlying26 rfl size26') rfl ⟨_, rfl, (END.out (HNO.out) _ rfl).2⟩
end Go.Proofs.Ytcbeaimpmjljjaa
