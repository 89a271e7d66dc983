/- Append, cut, clear and copy of signals in rows of one's own; no condition. -/
import Derived.Test.YtljejjfhlpjlfaaDuB
import Derived.Laws.CopyOwn
namespace Go.Proofs.Ytljejjfhlpjlfaa
open Go.RowKit Go.ChangeShapes Go.WideShapes Go.ChangeAt
set_option linter.unusedVariables false
set_option linter.unusedSimpArgs false
set_option maxRecDepth 8000
theorem tr_news {w : World} {b off : Nat} {ls : Tri} (h4 : ∀ i (h : i < ls.length), w.cell? ⟨b, off + i * 3, none⟩ = some (.int .i64 ls[i].1) ∧ w.cell? ⟨b, off + i * 3 + 1, none⟩ = some (.int .i64 ls[i].2.1) ∧ w.cell? ⟨b, off + i * 3 + 2, none⟩ = some (.int .i64 ls[i].2.2)) :
    ∀ j u, (tr ls)[j]? = some u → w.cell? ((⟨b, off, none⟩ : Addr).add j) = some u := by
  intro j u hu
  have hj : j < ls.length * 3 := by have := (List.getElem?_eq_some_iff.1 hu).1; rw [tr_len] at this; exact this
  have hq : j / 3 < ls.length := by omega
  have hp := tr_at ls (j / 3) hq
  have hc := h4 (j / 3) hq
  rw [Addr.add_lit]
  rcases (show j = j / 3 * 3 ∨ j = j / 3 * 3 + 1 ∨ j = j / 3 * 3 + 2 by omega) with e | e | e
  · rw [← e] at hp hc; rw [hc.1, ← hp.1]; exact hu
  · have e' : off + j = off + j / 3 * 3 + 1 := by omega
    rw [← e] at hp; rw [e', hc.2.1, ← hp.2.1]; exact hu
  · have e' : off + j = off + j / 3 * 3 + 2 := by omega
    rw [← e] at hp; rw [e', hc.2.2, ← hp.2.2]; exact hu
theorem tr_one {ls : Tri} : ∀ u ∈ tr ls, u.oneCell' = true := by
  induction ls with
  | nil => intro u hu; simp [tr] at hu
  | cons x r ih =>
    intro u hu
    simp only [tr, List.mem_cons] at hu
    rcases hu with rfl | rfl | rfl | hu
    · rfl
    · rfl
    · rfl
    · exact ih u hu
/-- paths behind a row of one's own -/
theorem appTri {ops : Array Oper} {rest : List Oper} {o : Oper} {a : Act} {w : World} {Q : Exit → Act → World → Prop} (hgd : o.guard = none) (s x : Operand)
    (ho : o.op = .call { callee := .builtin .append, args := #[s, x], argTypes := #[29, 29] }) (base : Nat) (v : Value) (l0 : Tri) (hs : a.eval s = v) (hown : Ot 66 base w v l0)
    (v2 : Value) (ls : Tri) (hx : a.eval x = v2) (hr : Rt w v2 ls) (hl : l0.length + ls.length ≤ 1099511627776) (hbase : base ≤ w.heap.size)
    (h : ∀ v' w', Ot 66 base w' v' (l0 ++ ls) → w.grownBy w' v.ownBlock → (v'.ownBlock = v.ownBlock ∨ v'.ownBlock = some w.heap.size) → wpList Try.prog ops Q rest (a.put o.dst v') w') : wpList Try.prog ops Q (o :: rest) a w := by
  obtain ⟨i0, hi, hz0, hz1, hz2⟩ := info_parts infoSig
  obtain ⟨av, cap, rfl, h1, h2, h3⟩ := hr
  by_cases hav : av = none
  · subst hav
    have hl0 : ls = [] := by
      rcases h3 with h3 | ⟨b, off, e, -⟩
      · exact h3
      · cases e
    subst hl0
    refine wpList_plain hgd fun K hK => ?_
    have hx' : a.eval x = .slice none 0 cap := hx
    obtain ⟨v', w', hr, q1, q2, q3⟩ : ∃ v' w', (Builtin.append_ #[29, 29] o.type #[v, .slice none 0 cap]).run Try.prog w = .ok v' w' ∧ Ot 66 base w' v' (l0 ++ []) ∧ w.grownBy w' v.ownBlock ∧ (v'.ownBlock = v.ownBlock ∨ v'.ownBlock = some w.heap.size) := by
      refine ⟨v, w, ?_, by simpa using hown, grown_refl _ _, .inl rfl⟩
      rcases hown.2 with ⟨rfl, h0⟩ | ⟨g, cp, cur, rfl, _, _, hnc, _⟩
      · simp [Builtin.append_, run_underlying Try.underlying29, sizeOf, typeInfo, hi, Builtin.lenOf, Builtin.firstCells]
      · simp [Builtin.append_, run_underlying Try.underlying29, sizeOf, typeInfo, hi, Builtin.lenOf, Builtin.firstCells, hnc, storeCells]
    unfold Oper.wp execOp
    simp only [ho, resolve, invoke, builtin, Sem.run_bind, Sem.run_pure, Result.andThen_ok, List.map_toArray, List.map_cons, List.map_nil, hs, hx', hr]
    exact hK _ _ (h v' w' q1 q2 q3)
  · obtain ⟨ad, rfl⟩ : ∃ ad, av = some ad := by cases av with | none => exact absurd rfl hav | some ad => exact ⟨ad, rfl⟩
    refine wpList_append_own_at w hgd s x 29 ho base 66 i0 (.agg #[.int .i64 0, .int .i64 0, .int .i64 0]) 3 24 Try.underlying29 hi hz0 hz1 hz2 rfl (by decide) v l0.length (tr l0) hs hown ad ls.length cap (tr ls) hx (tr_len _) ?_ tr_one ?_ ?_ hbase ?_
    · rcases h3 with rfl | ⟨b, off, e, h4⟩
      · intro j u hu; simp [tr] at hu
      · cases e
        exact tr_news h4
    · unfold maxLen; omega
    · omega
    · intro v' w' g1 g2 g3 g4
      refine h v' w' ?_ g2 g4
      rw [Ot, tr_app, List.length_append]; exact g1
theorem Ot.pre {E : TypeId} {base b n cap k : Nat} {w : World} {ls : Tri} (h : w.ownsRow base E 3 (.slice (some ⟨b, 0, none⟩) n cap) n (tr ls)) (hn : ls.length = n) (hk : k ≤ n) : w.ownsRow base E 3 (.slice (some ⟨b, 0, none⟩) k cap) k (tr (ls.take k)) := by
  rcases h.2 with ⟨e, -⟩ | ⟨b', cap', cur, e, hb, hg, hnc, hcm, hcs, ht⟩
  · cases e
  · cases e
    refine ⟨by rw [tr_len]; simp; omega, .inr ⟨b, cap, cur, rfl, hb, hg, by omega, hcm, hcs, ?_⟩⟩
    have e1 : tr ls = tr (ls.take k) ++ tr (ls.drop k) := by rw [← tr_app, List.take_append_drop]
    have e2 : cur.toList.take (k * 3) = (cur.toList.take (n * 3)).take (k * 3) := by rw [List.take_take, Nat.min_eq_left (by omega)]
    have hl : (tr (ls.take k)).length = k * 3 := by rw [tr_len]; simp; omega
    rw [e2, ht, e1, List.take_append_of_le_length (by omega), List.take_of_length_le (by omega)]
/-- the k-th of m + 1 is cut out: the rest is moved up, in its place -/
theorem cutTri {ops : Array Oper} {rest : List Oper} {o : Oper} {a : Act} {w : World} {Q : Exit → Act → World → Prop} (hgd : o.guard = none) (s x : Operand)
    (ho : o.op = .call { callee := .builtin .append, args := #[s, x], argTypes := #[29, 29] }) (base b m cap k : Nat) (ls : Tri) (hown : w.ownsRow base 66 3 (.slice (some ⟨b, 0, none⟩) (m + 1) cap) (m + 1) (tr ls)) (hn : ls.length = m + 1) (hk : k ≤ m)
    (hs : a.eval s = .slice (some ⟨b, 0, none⟩) k cap) (ad : Option Addr) (c : Nat) (had : (if cap = k + 1 then some (⟨b, 0, none⟩ : Addr) else some ⟨b, (k + 1) * 3, none⟩) = ad) (hx : a.eval x = .slice ad (m + 1 - (k + 1)) c)
    (h : ∀ w', w'.ownsRow base 66 3 (.slice (some ⟨b, 0, none⟩) m cap) m (tr (ls.eraseIdx k)) → w.grownBy w' (some b) → wpList Try.prog ops Q rest (a.put o.dst (.slice (some ⟨b, 0, none⟩) m cap)) w') : wpList Try.prog ops Q (o :: rest) a w := by
  obtain ⟨i0, hi, hz0, hz1, hz2⟩ := info_parts infoSig
  have hpre := Ot.pre hown hn (show k ≤ m + 1 by omega)
  have e1 : tr ls = tr (ls.take (k + 1)) ++ tr (ls.drop (k + 1)) := by rw [← tr_app, List.take_append_drop]
  have hl1 : (tr (ls.take (k + 1))).length = (k + 1) * 3 := by rw [tr_len]; simp; omega
  have hcap : m + 1 ≤ cap := by
    obtain ⟨a', c', e', m1, m2, -⟩ := own_form hown
    cases e'; exact m1
  have hx' : a.eval x = .slice (some (if cap = k + 1 then ⟨b, 0, none⟩ else ⟨b, (k + 1) * 3, none⟩)) (m - k) c := by
    rw [hx, ← had]
    have : m + 1 - (k + 1) = m - k := by omega
    rw [this]; split <;> rfl
  refine wpList_append_fits w hgd s x 29 ho base 66 i0 3 Try.underlying29 hi hz1 b k cap (tr (ls.take k)) hs hpre _ (m - k) c (tr (ls.drop (k + 1))) hx' (by rw [tr_len]; simp [hn]) ?_ ?_ (by omega) ?_
  · intro j u hj
    have hjl : j < (m - k) * 3 := by have := (List.getElem?_eq_some_iff.1 hj).1; rw [tr_len] at this; simpa [hn] using this
    rw [if_neg (by omega), Addr.add_lit, World.ownsRow.cellAt hown _ (by omega), e1, List.getElem?_append_right (by omega), hl1, Nat.add_sub_cancel_left]
    exact hj
  · intro u hu
    exact tr_one u hu
  · intro w' r1 r2
    have hsum : k + (m - k) = m := by omega
    have e2 : tr (ls.take k) ++ tr (ls.drop (k + 1)) = tr (ls.eraseIdx k) := by rw [← tr_app, List.eraseIdx_eq_take_drop_succ]
    rw [hsum] at r1 ⊢
    rw [e2] at r1
    exact h w' r1 r2
theorem zeroSig : ∀ w, (zeroValue 66).run Try.prog w = .ok (.agg #[.int .i64 0, .int .i64 0, .int .i64 0]) w := fun w => by kernel_rfl
/-- what lies behind a row's end, one element, is cleared -/
theorem clearRun {w : World} (ty : TypeId) (base b m cap c : Nat) (ls : Tri) (hown : w.ownsRow base 66 3 (.slice (some ⟨b, 0, none⟩) m cap) m (tr ls)) (hm : m + 1 ≤ cap) :
    ∃ w', (Builtin.clear_ #[29] ty #[.slice (some ⟨b, m * 3, none⟩) 1 c]).run Try.prog w = .ok (.tuple #[]) w' ∧ w'.ownsRow base 66 3 (.slice (some ⟨b, 0, none⟩) m cap) m (tr ls) ∧ w.grownBy w' (some b) := by
  rcases hown.2 with ⟨e, -⟩ | ⟨b', cap', cur, e, hb, hg, hnc, hcm, hcs, ht⟩
  · cases e
  cases e
  have hst := run_storeCells_at Try.prog b (m * 3) 66 [.int .i64 0, .int .i64 0, .int .i64 0] 0 cur w hg (by simp; omega) (by intro u hu; simp at hu; subst hu; rfl)
  have hz : (Builtin.zeroCells (Value.agg #[.int .i64 0, .int .i64 0, .int .i64 0]).cells 1).toList = [.int .i64 0, .int .i64 0, .int .i64 0] := by kernel_rfl
  refine ⟨w.setRow b (cur.toList.take (m * 3 + 0) ++ [Value.int .i64 0, Value.int .i64 0, Value.int .i64 0] ++ cur.toList.drop (m * 3 + 0 + [Value.int .i64 0, .int .i64 0, .int .i64 0].length)).toArray, ?_, ?_, ?_⟩
  · simp only [Builtin.clear_]
    simp only [run_underlying Try.underlying29, zeroSig, hz, Sem.run_bind, Sem.run_pure, Result.andThen_ok, hst, List.getElem?_toArray, List.getElem?_cons_zero]
  · refine ⟨hown.1, .inr ⟨b, cap, _, rfl, hb, setRow_heap w b cur _ 66 _ hg, hnc, hcm, ?_, ?_⟩⟩
    · simp; omega
    · rw [← ht]
      simp
      rw [List.take_append_of_le_length (by simp; omega), List.take_take, Nat.min_eq_left (by omega)]
  · exact ⟨rfl, rfl, rfl, by simp, fun k _ hk => setRow_other w b k _ (fun e => hk (by simp [e]))⟩
/-- paths are laid over a row of one's own that has as many -/
theorem copyRun {w : World} (ty : TypeId) (base b cap : Nat) (l0 ls : Tri) (hown : w.ownsRow base 66 3 (.slice (some ⟨b, 0, none⟩) ls.length cap) ls.length (tr l0)) (hl0 : l0.length = ls.length) (v2 : Value) (hr : Rt w v2 ls) :
    ∃ w', (Builtin.copy_ #[29, 29] ty #[.slice (some ⟨b, 0, none⟩) ls.length cap, v2]).run Try.prog w = .ok (goInt ls.length) w' ∧ Ot 66 base w' (.slice (some ⟨b, 0, none⟩) ls.length cap) ls ∧ w.grownBy w' (some b) := by
  obtain ⟨i0, hi, hz0, hz1, hz2⟩ := info_parts infoSig
  obtain ⟨av, c, rfl, h1, h2, h3⟩ := hr
  rcases hown.2 with ⟨e, -⟩ | ⟨b', cap', cur, e, hb, hg, hnc, hcm, hcs, ht⟩
  · cases e
  cases e
  have hmin : Nat.min ls.length ls.length = ls.length := Nat.min_self _
  cases av with
  | none =>
    have hl : ls = [] := by
      rcases h3 with h3 | ⟨b', off, e, -⟩
      · exact h3
      · cases e
    subst hl
    have : l0 = [] := List.eq_nil_of_length_eq_zero hl0
    subst this
    refine ⟨w, ?_, hown, grown_refl _ _⟩
    simp [Builtin.copy_, run_underlying Try.underlying29, Builtin.lenOf, Builtin.firstCells, sizeOf, typeInfo, hi, storeCells]
  | some ad =>
    have hsrc : ∀ j u, (tr ls)[j]? = some u → w.cell? (ad.add j) = some u := by
      rcases h3 with rfl | ⟨b', off, e, h4⟩
      · intro j u hu; simp [tr] at hu
      · cases e
        exact tr_news h4
    have hl := run_loadCells_list (P := Try.prog) w ad (tr ls) hsrc
    have hst := run_storeCells_at Try.prog b 0 66 (tr ls) 0 cur w hg (by rw [tr_len, hcs]; simp; exact Nat.mul_le_mul_right 3 hnc) tr_one
    rw [tr_len] at hl
    refine ⟨w.setRow b (cur.toList.take (0 + 0) ++ tr ls ++ cur.toList.drop (0 + 0 + (tr ls).length)).toArray, ?_, ?_, ?_⟩
    · simp [Builtin.copy_, run_underlying Try.underlying29, Builtin.lenOf, Builtin.firstCells, sizeOf, typeInfo, hi, hz1, hl, hst]
    · refine ⟨tr_len _, .inr ⟨b, cap, _, rfl, hb, setRow_heap w b cur _ 66 _ hg, hnc, hcm, ?_, ?_⟩⟩
      · simp [tr_len]; omega
      · simp
        rw [List.take_append_of_le_length (by rw [tr_len]; omega), List.take_of_length_le (by rw [tr_len]; omega)]
    · exact ⟨rfl, rfl, rfl, by simp, fun k _ hk => setRow_other w b k _ (fun e => hk (by simp [e]))⟩
set_option maxHeartbeats 1600000 in
theorem delete_c (base b cap k m : Nat) (ls : Tri) (w : World) (hown : w.ownsRow base 66 3 (.slice (some ⟨b, 0, none⟩) (m + 1) cap) (m + 1) (tr ls)) (hn : ls.length = m + 1) (hk : k ≤ m) (hm : m ≤ 4194304) :
   Calls Try.prog 69 #[.slice (some ⟨b, 0, none⟩) (m + 1) cap, .int .i64 k, .int .i64 (k + 1)] w fun e w' => e = .returned (.slice (some ⟨b, 0, none⟩) m cap) ∧ w'.ownsRow base 66 3 (.slice (some ⟨b, 0, none⟩) m cap) m (tr (ls.eraseIdx k)) ∧ w.grownBy w' (some b) := by
  have hc : m + 1 ≤ cap ∧ cap ≤ 2 ^ 63 - 1 := by
    obtain ⟨a', c', e', m1, m2, -⟩ := own_form hown
    cases e'; exact ⟨m1, m2⟩
  obtain ⟨hc1, hc2⟩ := hc
  have HO : Hid (w.ownsRow base 66 3 (.slice (some ⟨b, 0, none⟩) (m + 1) cap) (m + 1) (tr ls)) := hown
  have HN : Hid (ls.length = m + 1) := hn
  have hne : ((k : Int) == (k : Int) + 1) = false := by simp; omega
  have hcast : ((m + 1 : Nat) : Int) = (m : Int) + 1 := by omega
  clear hown hn
  go_enter Try.func69, Try.ntmps69
  go_wp2
  have ne2 : Nonempty (At fun _ => True) := ⟨⟨w, trivial⟩⟩
  refine region_mixA [true, true, true, true, true, true, false, false] 7 1 (fun _ => True) (by kernel_rfl) rfl (by kernel_rfl) (fun _ _ _ _ _ h => h) trivial ?_
  simp only [selT, selF]
  repeat (go_big_quiet_step (fail))
  refine wpQuiet_nil ?_
  clear ne2
  obtain ⟨ad, had⟩ : ∃ ad, (if cap = k + 1 then some (⟨b, 0, none⟩ : Addr) else some ⟨b, (k + 1) * 3, none⟩) = ad := ⟨_, rfl⟩
  rw [had]
  have HAD : Hid ((if cap = k + 1 then some (⟨b, 0, none⟩ : Addr) else some ⟨b, (k + 1) * 3, none⟩) = ad) := had
  clear had
  have hsub : m + 1 - (k + 1) = m - k := by omega
  refine tail_step ?_
  go_wp2_with (at_builtin; refine cutTri rfl _ _ rfl base b m cap k ls (World.ownsRow.drew HO.out) HN.out hk rfl ad (cap - (k + 1)) HAD.out (by rw [hsub]; rfl) ?_)
  intro w1 ho1 hg1
  have HO1 : Hid (w1.ownsRow base 66 3 (.slice (some ⟨b, 0, none⟩) m cap) m (tr (ls.eraseIdx k)) ∧ w.grownBy w1 (some b)) := ⟨ho1, ⟨hg1.os, hg1.tape, hg1.output, hg1.size, hg1.block⟩⟩
  clear ho1 hg1 HO
  go_wp2
  refine tail_end ?_
  obtain ⟨w2, hrun, ho2, hg2⟩ := clearRun (w := w1) 0 base b m cap (cap - m) (ls.eraseIdx k) HO1.out.1 hc1
  have HRUN : Hid ((Builtin.clear_ #[29] 0 #[.slice (some ⟨b, m * 3, none⟩) 1 (cap - m)]).run Try.prog w1 = .ok (.tuple #[]) w2) := hrun
  have HO2 : Hid (w2.ownsRow base 66 3 (.slice (some ⟨b, 0, none⟩) m cap) m (tr (ls.eraseIdx k)) ∧ w.grownBy w2 (some b)) := ⟨ho2, grown_trans HO1.out.2 hg2⟩
  clear hrun ho2 hg2 HO1 hsub
  go_wp2
  rw [HRUN.out]
  go_wp2
  go_ret
  exact ⟨rfl, HO2.out.1, HO2.out.2⟩
end Go.Proofs.Ytljejjfhlpjlfaa
