/- The contract of the model's copy of a panel: new memory alone, the calls and their legs in blocks of their own; no condition but that nothing is too long. -/
import Derived.Test.YtcbeaimpmjljjaaMark
import Derived.Test.YtcbeaimpmjljjaaOver
import Derived.Laws.AppendOwnNone
namespace Go.Proofs.Ytcbeaimpmjljjaa
open Go.RowKit Go.ChangeShapes Go.WideShapes Go.ChangeAt
set_option linter.unusedVariables false
set_option linter.unusedSimpArgs false
set_option maxRecDepth 8000
theorem pr_news {α : Type} {f g : α → Value} {w : World} {b off : Nat} {ls : List α} (h4 : ∀ i (h : i < ls.length), w.cell? ⟨b, off + i * 2, none⟩ = some (f ls[i]) ∧ w.cell? ⟨b, off + i * 2 + 1, none⟩ = some (g ls[i])) :
    ∀ j u, (pr f g ls)[j]? = some u → w.cell? ((⟨b, off, none⟩ : Addr).add j) = some u := by
  intro j u hu
  have hj : j < ls.length * 2 := by have := (List.getElem?_eq_some_iff.1 hu).1; rw [pr_len] at this; exact this
  have hq : j / 2 < ls.length := by omega
  have hp := pr_at f g ls (j / 2) hq
  have hc := h4 (j / 2) hq
  rw [Addr.add_lit]
  rcases (show j = j / 2 * 2 ∨ j = j / 2 * 2 + 1 by omega) with e | e
  · rw [← e] at hp hc; rw [hc.1, ← hp.1]; exact hu
  · rw [← e] at hp; rw [Nat.add_assoc, ← e] at hc; rw [hc.2, ← hp.2]; exact hu
theorem pr_one {ls : List (Int × Bool)} : ∀ u ∈ pr lf lg ls, u.oneCell' = true := by
  induction ls with
  | nil => intro u hu; simp [pr] at hu
  | cons x r ih =>
    intro u hu
    simp only [pr, List.mem_cons] at hu
    rcases hu with rfl | rfl | hu
    · rfl
    · rfl
    · exact ih u hu
/-- legs behind a row of the call's own -/
theorem appLegs {ops : Array Oper} {rest : List Oper} {o : Oper} {a : Act} {w : World} {Q : Exit → Act → World → Prop} (hgd : o.guard = none) (s x : Operand)
    (ho : o.op = .call { callee := .builtin .append, args := #[s, x], argTypes := #[43, 43] }) (base : Nat) (v : Value) (l0 : Legs2) (hs : a.eval s = v) (hown : Op lf lg 42 base w v l0)
    (v2 : Value) (ls : Legs2) (hx : a.eval x = v2) (hr : Rp lf lg w v2 ls) (hl : l0.length + ls.length ≤ 1099511627776) (hbase : base ≤ w.heap.size)
    (h : ∀ v' w', Op lf lg 42 base w' v' (l0 ++ ls) → w.grownBy w' v.ownBlock → (v'.ownBlock = v.ownBlock ∨ v'.ownBlock = some w.heap.size) → wpList Try.prog ops Q rest (a.put o.dst v') w') : wpList Try.prog ops Q (o :: rest) a w := by
  obtain ⟨i0, hi, hz0, hz1, hz2⟩ := info_parts infoLeg
  obtain ⟨av, cap, rfl, h1, h2, h3⟩ := hr
  by_cases hav : av = none
  · subst hav
    have hl0 : ls = [] := by
      rcases h3 with h3 | ⟨b, off, e, -⟩
      · exact h3
      · cases e
    subst hl0
    refine wpList_plain hgd fun K hK => ?_
    have hx' : a.eval x = .slice none 0 cap := hx
    obtain ⟨v', w', hr, q1, q2, q3⟩ : ∃ v' w', (Builtin.append_ #[43, 43] o.type #[v, .slice none 0 cap]).run Try.prog w = .ok v' w' ∧ Op lf lg 42 base w' v' (l0 ++ []) ∧ w.grownBy w' v.ownBlock ∧ (v'.ownBlock = v.ownBlock ∨ v'.ownBlock = some w.heap.size) := by
      refine ⟨v, w, ?_, by simpa using hown, grown_refl _ _, .inl rfl⟩
      rcases hown.2 with ⟨rfl, h0⟩ | ⟨g, cp, cur, rfl, _, _, hnc, _⟩
      · simp [Builtin.append_, run_underlying Try.underlying43, sizeOf, typeInfo, hi, Builtin.lenOf, Builtin.firstCells]
      · simp [Builtin.append_, run_underlying Try.underlying43, sizeOf, typeInfo, hi, Builtin.lenOf, Builtin.firstCells, hnc, storeCells]
    unfold Oper.wp execOp
    simp only [ho, resolve, invoke, builtin, Sem.run_bind, Sem.run_pure, Result.andThen_ok, List.map_toArray, List.map_cons, List.map_nil, hs, hx', hr]
    exact hK _ _ (h v' w' q1 q2 q3)
  · obtain ⟨ad, rfl⟩ : ∃ ad, av = some ad := by cases av with | none => exact absurd rfl hav | some ad => exact ⟨ad, rfl⟩
    refine wpList_append_own_at w hgd s x 43 ho base 42 i0 (.agg #[.int .i64 0, .bool false]) 2 16 Try.underlying43 hi hz0 hz1 hz2 rfl (by decide) v l0.length (pr lf lg l0) hs hown ad ls.length cap (pr lf lg ls) hx (pr_len _ _ _) ?_ pr_one ?_ ?_ hbase ?_
    · rcases h3 with rfl | ⟨b, off, e, h4⟩
      · intro j u hu; simp [pr] at hu
      · cases e
        exact pr_news h4
    · unfold maxLen; omega
    · omega
    · intro v' w' g1 g2 g3 g4
      refine h v' w' ?_ g2 g4
      rw [Op, pr_append, List.length_append]; exact g1
theorem OwL.mono {base base' : Nat} {w : World} {blk : Option Nat} {lv : List (Value × Value)} {cs : Calls2} (h : OwL base w blk lv cs) (hb : base' ≤ base) : OwL base' w blk lv cs := by
  intro i h1 h2
  obtain ⟨e, o, n, d⟩ := h i h1 h2
  exact ⟨e, o.mono hb, n, d⟩
theorem OwC.mono {base base' : Nat} {w : World} {v : Value} {cs : Calls2} (h : OwC base w v cs) (hb : base' ≤ base) : OwC base' w v cs := by
  obtain ⟨lv, h1, h2, h3⟩ := h
  exact ⟨lv, h1, h2.mono hb, h3.mono hb⟩
/-- a block ahead of all was written -/
theorem OwC.far {base k : Nat} {w w' : World} {v : Value} {cs : Calls2} (h : OwC base w v cs) (hg : w.grownBy w' (some k)) (hk : k < base) : OwC base w' v cs := by
  obtain ⟨lv, h1, h2, h3⟩ := h
  refine ⟨lv, h1, World.ownsRow.kept h2 hg (.inr fun e => ?_), fun i hi hi' => ?_⟩
  · have := (World.ownsRow.lt h2 k e).1; omega
  · obtain ⟨e, o, n, d⟩ := h3 i hi hi'
    exact ⟨e, World.ownsRow.kept o hg (.inr fun e => by have := (World.ownsRow.lt o k e).1; omega), n, d⟩
/-- one more call, its legs in new memory -/
theorem OwL.push {base : Nat} {w w5 w6 : World} {ov nv v' : Value} {lv : List (Value × Value)} {cs : Calls2} {c : Bool × Legs2} (h : OwL base w ov.ownBlock lv cs) (hlen : lv.length = cs.length) (hov : ∀ k, ov.ownBlock = some k → k < w.heap.size)
    (hB5 : Below w.heap.size w w5) (hO5 : Op lf lg 42 base w5 v' c.2) (hvn : ∀ k, v'.ownBlock = some k → w.heap.size ≤ k) (g6 : w5.grownBy w6 ov.ownBlock) (hnv : nv.ownBlock = ov.ownBlock ∨ nv.ownBlock = some w5.heap.size) :
    OwL base w6 nv.ownBlock (lv ++ [(.bool c.1, v')]) (cs ++ [c]) := by
  have L1 := (h.grown (below_grown hB5) (.inl rfl)).grown g6 (.inr rfl)
  intro i hi1 hi2
  by_cases hil : i < lv.length
  · obtain ⟨q1, q2, q3, q4⟩ := L1 i hil (by omega)
    simp only [List.getElem_append_left hil, List.getElem_append_left (show i < cs.length by omega)]
    refine ⟨q1, q2, ?_, fun j hj hji => ?_⟩
    · rcases hnv with e | e
      · rw [e]; exact q3
      · rw [e]
        refine .inr fun e2 => ?_
        have u := (World.ownsRow.lt (h i hil (by omega)).2.1 _ e2).2
        have := hB5.size
        omega
    · have hjl : j < lv.length := by omega
      simp only [List.getElem_append_left hjl]
      exact q4 j hjl hji
  · have hie : i = lv.length := by simp at hi1; omega
    subst hie
    have hce : (cs ++ [c])[lv.length]'hi2 = c := by simp [hlen]
    rw [hce]
    simp only [List.getElem_append_right (Nat.le_refl _), Nat.sub_self, List.getElem_cons_zero]
    have hne : v'.ownBlock = none ∨ v'.ownBlock ≠ ov.ownBlock := by
      cases hv : v'.ownBlock with
      | none => exact .inl rfl
      | some k => exact .inr fun e => by have := hvn k hv; have := hov k e.symm; omega
    refine ⟨trivial, World.ownsRow.kept hO5 g6 hne, ?_, fun j hj hji => ?_⟩
    · rcases hnv with e | e
      · rw [e]; exact hne
      · rw [e]; exact .inr fun e2 => by have := (World.ownsRow.lt hO5 _ e2).2; omega
    · simp only [List.getElem_append_left hji]
      cases hv : v'.ownBlock with
      | none => exact .inl rfl
      | some k =>
        refine .inr fun e => ?_
        have u1 := hvn k hv
        have u2 := (World.ownsRow.lt (h j hji (by omega)).2.1 k e.symm).2
        omega
theorem size26' : (Try.prog.info? 26).map (·.size) = some 2 := by kernel_rfl
set_option maxHeartbeats 3200000 in
theorem copy_c (n : Int) (v : Value) (cs : Calls2) (w : World) (h : RdC w v cs) (hn : cs.length ≤ 4194304) (hm : ∀ c ∈ cs, c.2.length ≤ 4194304) :
   Calls Try.prog 58 #[.agg #[.int .i64 n, v]] w fun e w' => ∃ v', e = .returned (.agg #[.int .i64 n, v']) ∧ OwC w.heap.size w' v' cs ∧ Below w.heap.size w w' := by
  obtain ⟨rv, hrl, ⟨a, cap, rfl, h1, h2, h3⟩, hrc⟩ := h
  unfold maxLen at h2
  rw [hrl] at h1 ⊢
  obtain ⟨i1, hi1, hy0, hy1, hy2⟩ := info_parts infoCall
  have HRC : Hid (∀ i (h : i < cs.length) (h' : i < rv.length), rv[i].1 = .bool cs[i].1 ∧ Rp lf lg w rv[i].2 cs[i].2) := hrc
  have HRL : Hid (rv.length = cs.length) := hrl
  have HK0 : Hid (Blk (((w.alloc (Obj.cells #[.int .i64 n, .slice a cs.length cap] 26)).alloc (Obj.cells #[.int .i64 0, .slice none 0 0] 26)).alloc (Obj.cells #[.int .i64 n, .slice none 0 0] 26)) w.heap.size #[.int .i64 n, .slice a cs.length cap] 26) := ((Blk.newAt _ _ _ 26 rfl).alloc _).alloc _
  have HK1 : Hid (Blk (((w.alloc (Obj.cells #[.int .i64 n, .slice a cs.length cap] 26)).alloc (Obj.cells #[.int .i64 0, .slice none 0 0] 26)).alloc (Obj.cells #[.int .i64 n, .slice none 0 0] 26)) (w.heap.size + 1) #[.int .i64 0, .slice none 0 0] 26) := (Blk.newAt _ _ _ 26 (by simp)).alloc _
  have HK2 : Hid (Blk (((w.alloc (Obj.cells #[.int .i64 n, .slice a cs.length cap] 26)).alloc (Obj.cells #[.int .i64 0, .slice none 0 0] 26)).alloc (Obj.cells #[.int .i64 n, .slice none 0 0] 26)) (w.heap.size + 1 + 1) #[.int .i64 n, .slice none 0 0] 26) := Blk.newAt _ _ _ 26 (by simp)
  have HB0 : Hid (Below w.heap.size w (((w.alloc (Obj.cells #[.int .i64 n, .slice a cs.length cap] 26)).alloc (Obj.cells #[.int .i64 0, .slice none 0 0] 26)).alloc (Obj.cells #[.int .i64 n, .slice none 0 0] 26))) := (((Below.refl _ _).alloc (Nat.le_refl _) _).alloc (by simp) _).alloc (by simp; omega) _
  clear hrc hrl
  go_enter Try.func58, Try.ntmps58
  go_wp2
  go_loopw [4] (fun i wr => ∃ (j : Nat) (ov : Value), j ≤ cs.length ∧ i = .int .i64 j ∧ Hid (OwC (w.heap.size + 3) wr ov (cs.take j)) ∧ Hid (Blk wr w.heap.size #[.int .i64 n, .slice a cs.length cap] 26) ∧ Hid (Blk wr (w.heap.size + 1) #[.int .i64 0, .slice none 0 0] 26) ∧ Hid (Blk wr (w.heap.size + 1 + 1) #[.int .i64 n, ov] 26) ∧ Hid (Below w.heap.size w wr)) (fun i _ => cs.length - (intOf i).toNat)
  case atStart => exact ⟨0, _, Nat.zero_le _, rfl, (⟨[], by simp, World.ownsRow_nil _ _ _ _, fun i h => by simp at h⟩ : OwC _ _ (.slice none 0 0) []), HK0.out, HK1.out, HK2.out, HB0.out⟩
  case round =>
    obtain ⟨j, ov, hj, rfl, hw, k0, k1, k2, hbr⟩ := hrel
    clear HK0 HK1 HK2 HB0
    have c0 : wr.cell? ⟨w.heap.size, 1, none⟩ = some (.slice a cs.length cap) := by have := k0.out.cell 1; simpa using this
    have c2 : wr.cell? ⟨w.heap.size + 1 + 1, 1, none⟩ = some ov := by have := k2.out.cell 1; simpa using this
    by_cases hlt : j < cs.length
    · have hrj : j < rv.length := by have h := HRL.out; omega
      rcases h3 with h3 | ⟨b, off, rfl, h4⟩
      · subst h3; simp at hrj
      have hc := h4 j hrj
      have hE := HRC.out j hlt hrj
      have hcb : b < w.heap.size := block_lt_of_cell hc.1
      obtain ⟨pk, hpk⟩ : ∃ pk, cs[j].1 = pk := ⟨_, rfl⟩
      obtain ⟨ls, hls⟩ : ∃ ls, cs[j].2 = ls := ⟨_, rfl⟩
      obtain ⟨lv0, hlv0⟩ : ∃ x, rv[j].2 = x := ⟨_, rfl⟩
      have d0 : wr.cell? ⟨b, off + j * 2, none⟩ = some (.bool pk) := by rw [hbr.out.cell hcb, ← hpk, ← hE.1]; exact hc.1
      have d1 : wr.cell? ⟨b, off + j * 2 + 1, none⟩ = some lv0 := by rw [hbr.out.cell hcb, ← hlv0]; exact hc.2
      have hR := hE.2.below hbr.out
      rw [hls, hlv0] at hR
      have hll : ls.length ≤ 4194304 := by rw [← hls]; exact hm _ (List.getElem_mem hlt)
      have HCJ : Hid (cs.take (j + 1) = cs.take j ++ [(pk, ls)]) := by
        show cs.take (j + 1) = _
        rw [List.take_succ_eq_append_getElem hlt, ← hpk, ← hls]
      obtain ⟨lv, l1, l2, l3⟩ := hw.out
      have hlj : lv.length = j := by rw [l1]; simp; omega
      have l2' : wr.ownsRow (w.heap.size + 3) 45 2 ov j (pr Prod.fst Prod.snd lv) := by have := l2; rw [Op, hlj] at this; exact this
      obtain ⟨ao, co, hov, o1, o2, o3⟩ := own_form l2'
      subst hov
      have hR2 := hR
      obtain ⟨al, cl, hlv, hl1, hl2, -⟩ := hR2
      subst hlv
      have hBs : w.heap.size + 3 ≤ wr.heap.size := by have := k2.out.lt; omega
      have e0 : ∀ W, Below (w.heap.size + 3) wr W → W.cell? ⟨w.heap.size, 1, none⟩ = some (.slice (some ⟨b, off, none⟩) cs.length cap) ∧ W.cell? ⟨w.heap.size + 1 + 1, 1, none⟩ = some (.slice ao j co) ∧ W.cell? ⟨b, off + j * 2, none⟩ = some (.bool pk) ∧ W.cell? ⟨b, off + j * 2 + 1, none⟩ = some (.slice al ls.length cl) := fun W hW => ⟨by rw [hW.cell (by dsimp only; omega)]; exact c0, by rw [hW.cell (by dsimp only; omega)]; exact c2, by rw [hW.cell (by dsimp only; omega)]; exact d0, by rw [hW.cell (by dsimp only; omega)]; exact d1⟩
      have HS0 : Hid (Below (w.heap.size + 3) wr wr.drew) := (Below.refl _ _).drew
      have HS1 : Hid (Below (w.heap.size + 3) wr (wr.drew.alloc (Obj.cells #[] 42))) := (Below.refl _ _).drew.alloc hBs _
      have HO0 : Hid (Op lf lg 42 (w.heap.size + 3) (wr.drew.alloc (Obj.cells #[] 42)) (.slice (some ⟨wr.heap.size, 0, none⟩) 0 0) []) := World.ownsRow_lit wr.drew #[] 0 hBs (by simp) (by simp)
      have HR : Hid (Rp lf lg (wr.drew.alloc (Obj.cells #[] 42)) (.slice al ls.length cl) ls) := hR.below ((Below.refl _ _).drew.alloc (Nat.le_refl _) _)
      have HS4 : Hid (∀ w4, (wr.drew.alloc (Obj.cells #[] 42)).grownBy w4 (some wr.heap.size) → wr.heap.size < w4.heap.size ∧ Below (w.heap.size + 3) wr w4 ∧ ∀ o, Below (w.heap.size + 3) wr (w4.alloc o)) := fun w4 hg => by
        have x := HS1.out.trans (grown_below hg (by simp; omega) (fun k e => by cases e; exact hBs) : Below (w.heap.size + 3) (wr.drew.alloc (Obj.cells #[] 42)) w4)
        have hs := hg.size
        simp at hs
        exact ⟨by omega, x, fun o => x.alloc (by omega) _⟩
      have FIN : Hid (∀ v' w4 g2 cap2 w6, Op lf lg 42 (w.heap.size + 3) w4 v' ls → (wr.drew.alloc (Obj.cells #[] 42)).grownBy w4 (some wr.heap.size) → (v'.ownBlock = some wr.heap.size ∨ v'.ownBlock = some (wr.heap.size + 1)) →
          w6.ownsRow (w.heap.size + 3) 45 2 (.slice (some ⟨g2, 0, none⟩) (j + 1) cap2) (j + 1) (pr Prod.fst Prod.snd lv ++ [.bool pk, v']) → (w4.alloc (Obj.cells #[.bool pk, v'] 45)).grownBy w6 (Value.slice ao j co).ownBlock → ((Value.slice ao j co).ownBlock = some g2 ∨ g2 = w4.heap.size + 1) →
          (Below (w.heap.size + 3) wr w6 ∧ w6.frozen? ⟨w.heap.size + 1 + 1, 1, none⟩ = false) ∧ OwC (w.heap.size + 3) (w6.setCell ⟨w.heap.size + 1 + 1, 1, none⟩ (.slice (some ⟨g2, 0, none⟩) (j + 1) cap2)) (.slice (some ⟨g2, 0, none⟩) (j + 1) cap2) (cs.take (j + 1)) ∧
          Blk (w6.setCell ⟨w.heap.size + 1 + 1, 1, none⟩ (.slice (some ⟨g2, 0, none⟩) (j + 1) cap2)) w.heap.size #[.int .i64 n, .slice (some ⟨b, off, none⟩) cs.length cap] 26 ∧ Blk (w6.setCell ⟨w.heap.size + 1 + 1, 1, none⟩ (.slice (some ⟨g2, 0, none⟩) (j + 1) cap2)) (w.heap.size + 1) #[.int .i64 0, .slice none 0 0] 26 ∧
          Blk (w6.setCell ⟨w.heap.size + 1 + 1, 1, none⟩ (.slice (some ⟨g2, 0, none⟩) (j + 1) cap2)) (w.heap.size + 1 + 1) #[.int .i64 n, .slice (some ⟨g2, 0, none⟩) (j + 1) cap2] 26 ∧ Below w.heap.size w (w6.setCell ⟨w.heap.size + 1 + 1, 1, none⟩ (.slice (some ⟨g2, 0, none⟩) (j + 1) cap2))) := by
        intro v' w4 g2 cap2 w6 hO hg4 hv ho6 hg6 hloc
        obtain ⟨s4, b4, b4'⟩ := HS4.out w4 hg4
        have b5 := b4' (Obj.cells #[.bool pk, v'] 45)
        have b6 : Below (w.heap.size + 3) wr w6 := b5.trans (grown_below hg6 (by simp; omega) (fun k e => (World.ownsRow.lt l2' k e).1))
        have bw : Below wr.heap.size wr (w4.alloc (Obj.cells #[.bool pk, v'] 45)) := (((Below.refl wr.heap.size wr).drew.alloc (Nat.le_refl _) _).trans (grown_below hg4 (by simp) (fun k e => by cases e; exact Nat.le_refl _) : Below wr.heap.size (wr.drew.alloc (Obj.cells #[] 42)) w4)).alloc (by omega) _
        have L := l3.push (c := (pk, ls)) (nv := .slice (some ⟨g2, 0, none⟩) (j + 1) cap2) (v' := v') l1 (fun k e => (World.ownsRow.lt l2' k e).2) bw (World.ownsRow.alloc hO _) (fun k e => by rcases hv with h | h <;> (rw [h] at e; cases e; omega)) hg6 (by
          rcases hloc with h | h
          · left; rw [h]; rfl
          · right; rw [h]; simp [Value.ownBlock])
        have O6 : OwC (w.heap.size + 3) w6 (.slice (some ⟨g2, 0, none⟩) (j + 1) cap2) (cs.take (j + 1)) := by
          rw [HCJ.out]
          refine ⟨lv ++ [(.bool pk, v')], by simp; omega, ?_, L⟩
          rw [Op, pr_append, List.length_append, hlj]; exact ho6
        have q0 := k0.out.below b6 (by omega)
        have q1 := k1.out.below b6 (by omega)
        have q2 := k2.out.below b6 (by omega)
        refine ⟨⟨b6, q2.frozen 1⟩, O6.far (grown_set _ _ _ _) (by omega), q0.other _ _ (by dsimp only; omega), q1.other _ _ (by dsimp only; omega), ?_, ?_⟩
        · have := q2.set 1 (.slice (some ⟨g2, 0, none⟩) (j + 1) cap2)
          simpa using this
        · exact (hbr.out.trans (b6.mono (by omega))).setCell (by dsimp only; omega) _
      have HL2 : Hid (∀ w4, (wr.drew.alloc (Obj.cells #[] 42)).grownBy w4 (some wr.heap.size) → w4.ownsRow (w.heap.size + 3) 45 2 (.slice ao j co) j (pr Prod.fst Prod.snd lv)) := fun w4 hg => by
        refine World.ownsRow.kept (World.ownsRow.alloc (World.ownsRow.drew l2') _) hg (.inr fun e => ?_)
        have := (World.ownsRow.lt l2' _ e).2; omega
      obtain ⟨S, hS⟩ : ∃ S : World → Prop, ∀ W, S W ↔ Below (w.heap.size + 3) wr W := ⟨_, fun _ => Iff.rfl⟩
      have z0 : ∀ W : At S, W.wd.cell? ⟨w.heap.size, 1, none⟩ = some (.slice (some ⟨b, off, none⟩) cs.length cap) := fun W => (e0 _ ((hS _).1 W.ok)).1
      have z1 : ∀ W : At S, W.wd.cell? ⟨w.heap.size + 1 + 1, 1, none⟩ = some (.slice ao j co) := fun W => (e0 _ ((hS _).1 W.ok)).2.1
      have z2 : ∀ W : At S, W.wd.cell? ⟨b, off + j * 2, none⟩ = some (.bool pk) := fun W => (e0 _ ((hS _).1 W.ok)).2.2.1
      have z3 : ∀ W : At S, W.wd.cell? ⟨b, off + j * 2 + 1, none⟩ = some (.slice al ls.length cl) := fun W => (e0 _ ((hS _).1 W.ok)).2.2.2
      have HSI : Hid (∀ W, Below (w.heap.size + 3) wr W → S W) := fun W h => (hS W).2 h
      have HE0 : Hid (∀ W, Below (w.heap.size + 3) wr W → W.cell? ⟨w.heap.size + 1 + 1, 1, none⟩ = some (.slice ao j co)) := fun W h => (e0 W h).2.1
      have ne2 : Nonempty (At S) := ⟨⟨_, HSI.out _ HS1.out⟩⟩
      clear hS e0 l1 l2 l2' l3 hw k0 k1 k2 hbr hR hE hc h4 HRC HRL c2 d0 d1 hpk hls hlv0 hlj
      go_wp2
      refine region_mixA [true, true, true, true, true, true, true, true, false, true, true, true, true, true, true, false, false, false, false, false, false] 19 5 S (by kernel_rfl) rfl (by kernel_rfl) (fun _ _ _ _ _ h => h) (HSI.out _ HS0.out) ?_
      simp only [selT, selF]
      repeat (go_big_quiet_step (fail))
      refine wpQuiet_nil ?_
      refine tail_step ?_
      go_wp2
      refine ⟨HSI.out _ HS1.out, tail_step ?_⟩
      go_wp2_with (at_builtin; refine appLegs rfl _ _ rfl (w.heap.size + 3) _ [] rfl HO0.out _ ls rfl HR.out (by simp; omega) (by simp; omega) ?_)
      intro v' w4 ho4 hg4 hv4
      obtain ⟨s4, b4, b4'⟩ := HS4.out w4 hg4
      have r4 := HL2.out w4 hg4
      have F4 : Hid _ := fun g2 cap2 w6 => FIN.out v' w4 g2 cap2 w6 ho4 hg4 (by simpa [Value.ownBlock] using hv4)
      obtain ⟨a4, c4, hv4', -, -, -⟩ := own_form ho4
      have B4 : Hid (Below (w.heap.size + 3) wr w4) := b4
      have B5 : Hid (∀ o, Below (w.heap.size + 3) wr (w4.alloc o)) := b4'
      have R4 : Hid _ := r4
      have hv5 : v' = .slice a4 ls.length c4 := hv4'
      clear hv4'
      subst hv5
      clear ho4 hg4 hv4 HO0 HR FIN HL2 HS4 b4 b4' r4
      go_wp2
      refine ⟨HSI.out _ B4.out, tail_step ?_⟩
      go_wp2
      refine ⟨HSI.out _ B4.out, tail_step ?_⟩
      go_wp2
      refine ⟨HSI.out _ (B5.out _), tail_step ?_⟩
      go_wp2_with (at_builtin; refine wpList_append_lies _ rfl _ _ 24 rfl (w.heap.size + 3) 45 i1 (.agg #[.bool false, .slice none 0 0]) 2 32 Try.underlying24 hi1 hy0 hy1 hy2 rfl (by decide) _ _ _ rfl (World.ownsRow.alloc R4.out _) ⟨w4.heap.size, 0, none⟩ 1 1 [.bool pk, .slice a4 ls.length c4] rfl rfl (World.news_of_block (Blk.newAt w4 w4.heap.size _ 45 rfl)) (by intro u hu; simp at hu; rcases hu with rfl | rfl <;> rfl) (by decide) (by unfold maxLen; omega) (by omega) (by simp; omega) (w4.heap.size + 1) (by simp) ?_)
      intro g2 cap2 w6 ho hgr hloc hlt2
      obtain ⟨⟨b6, f6⟩, hfin⟩ := F4.out g2 cap2 w6 ho hgr hloc
      have t6 := HE0.out w6 b6
      have HF : Hid _ := hfin
      have B6 : Hid (S w6) := HSI.out w6 b6
      clear ho hgr hloc hlt2 F4 hfin b6
      go_wp2
      refine ⟨B6.out, tail_end ?_⟩
      go_wp2
      go_roundw
      case rel => exact ⟨j + 1, _, by omega, by go_num, HF.out.1, HF.out.2.1, HF.out.2.2.1, HF.out.2.2.2.1, HF.out.2.2.2.2⟩
      case measure => simp [intOf]; omega
    · obtain rfl : j = cs.length := by omega
      rw [List.take_length] at hw
      have c3 : wr.cell? ⟨w.heap.size + 1 + 1, 0, none⟩ = some (.int .i64 n) := by have := k2.out.cell 0; simpa using this
      have d0 : wr.cell? ⟨w.heap.size + 1, 0, none⟩ = some (.int .i64 0) := by have := k1.out.cell 0; simpa using this
      have d1 : wr.cell? ⟨w.heap.size + 1, 1, none⟩ = some (.slice none 0 0) := by have := k1.out.cell 1; simpa using this
      have f0 := k1.out.frozen 0
      have f1 := k1.out.frozen 1
      have K1 : Hid (Blk ((wr.setCell ⟨w.heap.size + 1, 0, none⟩ (.int .i64 n)).setCell ⟨w.heap.size + 1, 1, none⟩ ov) (w.heap.size + 1) #[.int .i64 n, ov] 26) := by
        have := (k1.out.set 0 (.int .i64 n)).set 1 ov
        show Blk _ _ _ _
        simpa using this
      have HO : Hid (OwC w.heap.size ((wr.setCell ⟨w.heap.size + 1, 0, none⟩ (.int .i64 n)).setCell ⟨w.heap.size + 1, 1, none⟩ ov) ov cs) := ((hw.out.far (grown_set _ _ _ _) (by omega)).far (grown_set _ _ _ _) (by omega)).mono (by omega)
      have HB : Hid (Below w.heap.size w ((wr.setCell ⟨w.heap.size + 1, 0, none⟩ (.int .i64 n)).setCell ⟨w.heap.size + 1, 1, none⟩ ov)) := (hbr.out.setCell (by dsimp only; omega) _).setCell (by dsimp only; omega) _
      obtain ⟨lv, l1, l2, -⟩ := hw.out
      obtain ⟨ao, co, hov, -⟩ := own_form l2
      rw [l1] at hov
      subst hov
      clear l1 l2 hw k0 k1 k2 hbr h3 HRC HRL
      go_wp2
      exact bodyPost_ret (v := .agg #[.int .i64 n, .slice ao cs.length co]) (results_cell_row rfl _ _ _ 26 _ (0, 0) _ rfl K1.out Try.underlying26 rfl size26') rfl ⟨_, rfl, HO.out, HB.out⟩
end Go.Proofs.Ytcbeaimpmjljjaa
