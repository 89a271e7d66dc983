/- The subs without some features; no condition. -/
import Derived.Test.YtfaflnhembceoaaDsB
import Derived.Test.YtfaflnhembceoaaRtN
import Derived.Test.YtfaflnhembceoaaDsA
namespace Go.Proofs.Ytfaflnhembceoaa
open Go.RowKit Go.ChangeShapes Go.WideShapes Go.ChangeAt
set_option linter.unusedVariables false
set_option linter.unusedSimpArgs false
set_option maxRecDepth 8000

theorem addAt (b off k : Nat) : (⟨b, off, none⟩ : Addr).add k = ⟨b, off + k, none⟩ := by
  unfold Addr.add
  by_cases h : k = 0
  · subst h; simp
  · simp [h]
/-- subs behind a row of the call's own -/
theorem appQ {ops : Array Oper} {rest : List Oper} {o : Oper} {a : Act} {w : World} {Q : Exit → Act → World → Prop} (hgd : o.guard = none) (s x : Operand)
    (ho : o.op = .call { callee := .builtin .append, args := #[s, x], argTypes := #[24, 24] }) (base : Nat) (v : Value) (l0 : List V3) (hs : a.eval s = v) (hown : Oq 35 base w v l0)
    (v2 : Value) (ls : List V3) (hx : a.eval x = v2) (hr : Rq w v2 ls) (h1c : ∀ u ∈ tq ls, u.oneCell' = true) (hl : l0.length + ls.length ≤ 1099511627776) (hbase : base ≤ w.heap.size)
    (h : ∀ v' w', Oq 35 base w' v' (l0 ++ ls) → w.grownBy w' v.ownBlock → (v'.ownBlock = v.ownBlock ∨ v'.ownBlock = some w.heap.size) → wpList Try.prog ops Q rest (a.put o.dst v') w') : wpList Try.prog ops Q (o :: rest) a w := by
  obtain ⟨i0, hi, hz0, hz1, hz2⟩ := info_parts infoSub
  obtain ⟨av, cap, rfl, h1, h2, h3⟩ := hr
  by_cases hav : av = none
  · subst hav
    have hl0 : ls = [] := by
      rcases h3 with h3 | ⟨b, off, e, -⟩
      · exact h3
      · cases e
    subst hl0
    refine wpList_plain hgd fun K hK => ?_
    have hx' : a.eval x = .slice none 0 cap := hx
    obtain ⟨v', w', hr, q1, q2, q3⟩ : ∃ v' w', (Builtin.append_ #[24, 24] o.type #[v, .slice none 0 cap]).run Try.prog w = .ok v' w' ∧ Oq 35 base w' v' (l0 ++ []) ∧ w.grownBy w' v.ownBlock ∧ (v'.ownBlock = v.ownBlock ∨ v'.ownBlock = some w.heap.size) := by
      refine ⟨v, w, ?_, by simpa using hown, grown_refl _ _, .inl rfl⟩
      rcases hown.2 with ⟨rfl, h0⟩ | ⟨g, cp, cur, rfl, _, _, hnc, _⟩
      · simp [Builtin.append_, run_underlying Try.underlying24, sizeOf, typeInfo, hi, Builtin.lenOf, Builtin.firstCells]
      · simp [Builtin.append_, run_underlying Try.underlying24, sizeOf, typeInfo, hi, Builtin.lenOf, Builtin.firstCells, hnc, storeCells]
    unfold Oper.wp execOp
    simp only [ho, resolve, invoke, builtin, Sem.run_bind, Sem.run_pure, Result.andThen_ok, List.map_toArray, List.map_cons, List.map_nil, hs, hx', hr]
    exact hK _ _ (h v' w' q1 q2 q3)
  · obtain ⟨ad, rfl⟩ : ∃ ad, av = some ad := by cases av with | none => exact absurd rfl hav | some ad => exact ⟨ad, rfl⟩
    refine wpList_append_own_at w hgd s x 24 ho base 35 i0 (.agg #[.bool false, .bool false, .slice none 0 0]) 3 32 Try.underlying24 hi hz0 hz1 hz2 rfl (by decide) v l0.length (tq l0) hs hown ad ls.length cap (tq ls) hx (tq_len _) ?_ h1c ?_ ?_ hbase ?_
    · rcases h3 with rfl | ⟨b, off, e, h4⟩
      · intro j u hu; simp [tq] at hu
      · cases e
        intro j u hu
        have hj : j < (tq ls).length := (List.getElem?_eq_some_iff.1 hu).1
        rw [tq_len] at hj
        have hq : j / 3 < ls.length := by omega
        have t := tq_at ls (j / 3) hq
        have c := h4 (j / 3) hq
        have hd : j = j / 3 * 3 ∨ j = j / 3 * 3 + 1 ∨ j = j / 3 * 3 + 2 := by omega
        rcases hd with hd | hd | hd
        · rw [hd, t.1] at hu
          rw [hd, ← Option.some.inj hu]
          rw [addAt]; exact c.1
        · rw [hd, t.2.1] at hu
          rw [hd, ← Option.some.inj hu]
          rw [addAt]; exact c.2.1
        · rw [hd, t.2.2] at hu
          rw [hd, ← Option.some.inj hu]
          rw [addAt]; exact c.2.2
    · unfold maxLen; omega
    · omega
    · intro v' w' g1 g2 g3 g4
      refine h v' w' ?_ g2 g4
      rw [Oq, tq_app, List.length_append]; exact g1
theorem Oq.lit0 (w : World) (base : Nat) (hb : base ≤ w.heap.size) : Oq 35 base (w.alloc (.cells #[] 35)) (.slice (some ⟨w.heap.size, 0, none⟩) 0 0) [] := World.ownsRow_lit w #[] 0 hb (by simp) (by simp)
/-- the features but those at two places -/
def wof (ls : Fts) (a b : Int) : Nat → Fts
  | 0 => []
  | j + 1 => wof ls a b j ++ (if (j : Int) = a ∨ (j : Int) = b then [] else [ls.getD j (0, 0)])
def woS (cs : Sbs) (t : Nat) (a b : Int) : Sbs := cs.set t ((cs.getD t sb0).1, (cs.getD t sb0).2.1, wof (cs.getD t sb0).2.2 a b (cs.getD t sb0).2.2.length)
theorem wof_len (ls : Fts) (a b : Int) : ∀ j, (wof ls a b j).length ≤ j
  | 0 => Nat.le_refl _
  | j + 1 => by
    have := wof_len ls a b j
    rw [wof, List.length_append]
    split <;> simp <;> omega
theorem wof_skip (ls : Fts) (a b : Int) (j : Nat) (h : (j : Int) = a ∨ (j : Int) = b) : wof ls a b (j + 1) = wof ls a b j := by rw [wof, if_pos h, List.append_nil]
theorem wof_take (ls : Fts) (a b : Int) (j : Nat) (x : Int × Int) (hj : j < ls.length) (hx : ls[j] = x) (h1 : ¬ (j : Int) = a) (h2 : ¬ (j : Int) = b) : wof ls a b (j + 1) = wof ls a b j ++ [x] := by
  rw [wof, if_neg (by rintro (h | h); exact h1 h; exact h2 h)]
  simp [List.getElem?_eq_getElem hj, hx]
theorem grown_lt {w w' : World} {base e s n : Nat} {v : Value} {xs : List Value} (ho : w.ownsRow base e s v n xs) (hg : w.grownBy w' v.ownBlock) {B : Nat} (hB : B ≤ base) (hs : B ≤ w.heap.size) : Below B w w' := grown_below hg hs (fun k e => by have := (World.ownsRow.lt ho k e).1; omega)
theorem wo_fin {w W : World} {k n cap t : Nat} {lv : List V3} {cs : Sbs} {fv : Value} {fs : Fts} (hl : lv.length = cs.length) (hn : lv.length = n) (ht : t < cs.length)
    (hall : ∀ i (h : i < cs.length) (h' : i < lv.length), lv[i].1 = .bool cs[i].1 ∧ lv[i].2.1 = .bool cs[i].2.1 ∧ Rp mf mg w lv[i].2.2 cs[i].2.2)
    (ho : Oq 35 w.heap.size W (.slice (some ⟨k, 0, none⟩) n cap) lv) (hf : Op mf mg 37 w.heap.size W fv fs) (hb : Below w.heap.size w W) :
    RdS (W.setCell ⟨k, t * 3 + 2, none⟩ fv) (.slice (some ⟨k, 0, none⟩) n cap) (cs.set t ((cs.getD t sb0).1, (cs.getD t sb0).2.1, fs)) ∧ Below w.heap.size w (W.setCell ⟨k, t * 3 + 2, none⟩ fv) := by
  subst hn
  have hk : w.heap.size ≤ k := (World.ownsRow.lt ho k rfl).1
  have hb' : Below w.heap.size w (W.setCell ⟨k, t * 3 + 2, none⟩ fv) := hb.setCell hk _
  have hst := (World.ownsRow.stored ho (t * 3 + 2) fv).1
  have htl : t < lv.length := by omega
  rw [tq_set2 lv t fv htl] at hst
  have hd0 : lv.getD t (fv, fv, fv) = lv[t] := by rw [List.getD_eq_getElem?_getD, List.getElem?_eq_getElem htl]; rfl
  have hcd : cs.getD t sb0 = cs[t] := by rw [List.getD_eq_getElem?_getD, List.getElem?_eq_getElem ht]; rfl
  rw [hd0] at hst
  rw [hcd]
  have hf' : Op mf mg 37 w.heap.size (W.setCell ⟨k, t * 3 + 2, none⟩ fv) fv fs := World.ownsRow.kept hf (grown_set W k (t * 3 + 2) fv) (own_tag hf ho (by decide))
  have hst' : Oq 35 w.heap.size (W.setCell ⟨k, t * 3 + 2, none⟩ fv) (.slice (some ⟨k, 0, none⟩) lv.length cap) (lv.set t (lv[t].1, lv[t].2.1, fv)) := by
    unfold Oq; rw [List.length_set]; exact hst
  refine ⟨⟨lv.set t (lv[t].1, lv[t].2.1, fv), by simp [hl], by have := hst'.rd; simpa using this, fun i hi hi' => ?_⟩, hb'⟩
  by_cases e : i = t
  · subst e
    simp only [List.getElem_set_self]
    exact ⟨(hall i ht htl).1, (hall i ht htl).2.1, Op.rd hf'⟩
  · have e1 : i < cs.length := by simpa using hi
    have e2 : i < lv.length := by simpa using hi'
    simp only [List.getElem_set_ne (show t ≠ i by omega)]
    obtain ⟨a1, a2, a3⟩ := hall i e1 e2
    exact ⟨a1, a2, a3.below hb'⟩
set_option maxHeartbeats 3200000 in
theorem withoutM_c (v : Value) (cs : Sbs) (t : Nat) (xa xb : Int) (w : World) (h : RdS w v cs) (ht : t < cs.length) (hn : cs.length ≤ 1048576) (hm : (cs.getD t sb0).2.2.length ≤ 1048576) :
   Calls Try.prog 79 #[v, .int .i64 (t : Int), .int .i64 xa, .int .i64 xb] w fun e w' => ∃ v', e = .returned v' ∧ RdS w' v' (woS cs t xa xb) ∧ Below w.heap.size w w' := by
  have HRD : Hid (RdS w v cs) := h
  obtain ⟨lv, hlv, hq, hall⟩ := h
  obtain ⟨a, cap, hv, g1, g2⟩ := HRD.out.len
  subst hv
  unfold maxLen at g2
  obtain ⟨b, off, v2, rfl, hcb, hR, d0, d1, d2⟩ := HRD.out.at t ht
  obtain ⟨a2, cap2, rfl, q1, q2, q3⟩ := id hR
  unfold maxLen at q2
  have hgd : cs.getD t sb0 = cs[t] := by simp [List.getElem?_eq_getElem ht]
  obtain ⟨ls, hls⟩ : ∃ ls, cs[t].2.2 = ls := ⟨_, rfl⟩
  rw [hgd, hls] at hm
  rw [hls] at d2 q1 q3
  obtain ⟨m, hmm⟩ : ∃ m, ls.length = m := ⟨_, rfl⟩
  have HM : Hid (ls.length = m) := hmm
  have H3 : Hid (ls = [] ∨ ∃ b off, a2 = some ⟨b, off, none⟩ ∧ ∀ i (h : i < ls.length), w.cell? ⟨b, off + i * 2, none⟩ = some (mf ls[i]) ∧ w.cell? ⟨b, off + i * 2 + 1, none⟩ = some (mg ls[i])) := q3
  rw [hmm] at d2 q1 hm
  have HQ : Hid (Rq w (.slice (some ⟨b, off, none⟩) cs.length cap) lv) := hq
  have HLV : Hid (lv.length = cs.length) := hlv
  have HALL : Hid (∀ i (h : i < cs.length) (h' : i < lv.length), lv[i].1 = .bool cs[i].1 ∧ lv[i].2.1 = .bool cs[i].2.1 ∧ Rp mf mg w lv[i].2.2 cs[i].2.2) := hall
  have H1C : Hid (∀ u ∈ tq lv, u.oneCell' = true) := by
    intro u hu
    obtain ⟨j, e⟩ := List.getElem?_of_mem hu
    have hj : j < (tq lv).length := (List.getElem?_eq_some_iff.1 e).1
    rw [tq_len] at hj
    have hq' : j / 3 < lv.length := by omega
    have tt := tq_at lv (j / 3) hq'
    obtain ⟨p1, p2, p3⟩ := hall (j / 3) (by omega) hq'
    have hd : j = j / 3 * 3 ∨ j = j / 3 * 3 + 1 ∨ j = j / 3 * 3 + 2 := by omega
    rcases hd with hd | hd | hd
    · rw [hd, tt.1, p1] at e
      rw [← Option.some.inj e]; rfl
    · rw [hd, tt.2.1, p2] at e
      rw [← Option.some.inj e]; rfl
    · rw [hd, tt.2.2] at e
      obtain ⟨a', cap', e', -⟩ := p3
      rw [e'] at e
      rw [← Option.some.inj e]; rfl
  have HGD : Hid (cs.getD t sb0 = cs[t]) := hgd
  have HLS : Hid (cs[t].2.2 = ls) := hls
  obtain ⟨n, hnn⟩ : ∃ n, cs.length = n := ⟨_, rfl⟩
  have HN : Hid (cs.length = n) := hnn
  have HT : Hid (t < cs.length) := ht
  rw [hnn] at g1 hn ht HQ
  have gg : cs.length = n := hnn
  rw [show (Value.slice (some ⟨b, off, none⟩) cs.length cap) = Value.slice (some ⟨b, off, none⟩) n cap by rw [hnn]] at *
  obtain ⟨W0, hW0⟩ : ∃ W0, w.alloc (Obj.cells #[] 35) = W0 := ⟨_, rfl⟩
  have B0 : Hid (Below w.heap.size w W0) := by show Below _ _ _; rw [← hW0]; exact (Below.refl _ _).alloc (Nat.le_refl _) _
  have O0 : Hid (Oq 35 w.heap.size W0 (.slice (some ⟨w.heap.size, 0, none⟩) 0 0) []) := by show Oq _ _ _ _ _; rw [← hW0]; exact Oq.lit0 w _ (Nat.le_refl _)
  clear d0 d1 hls hgd hmm hq hlv hall q3 hR hnn gg
  go_enter Try.func79, Try.ntmps79
  go_wp2_with (at_builtin; refine appQ rfl (.tmp 12) (.tmp 13) rfl w.heap.size _ [] rfl O0.out _ lv rfl (HQ.out.below B0.out) H1C.out (by have := HLV.out; have := HN.out; simp; omega) B0.out.size ?_)
  intro vo w1 o1 g1' _
  have O1 : Hid (Oq 35 w.heap.size w1 vo lv) := o1
  have B1 : Hid (Below w.heap.size w w1) := B0.out.trans (grown_lt O0.out g1' (Nat.le_refl _) B0.out.size)
  have S1 : w.heap.size ≤ w1.heap.size := B1.out.size
  clear o1 g1'
  obtain ⟨ao, capo, rfl, -⟩ := own_form O1.out
  obtain ⟨lo, hlo⟩ : ∃ lo, lv.length = lo := ⟨_, rfl⟩
  have HLO : Hid (lv.length = lo) := hlo
  rw [hlo] at O1 ⊢
  clear hlo
  obtain ⟨W2, hW2⟩ : ∃ W2, w1.alloc (Obj.cells #[] 37) = W2 := ⟨_, rfl⟩
  have bA : Below w1.heap.size w1 W2 := by rw [← hW2]; exact (Below.refl _ _).alloc (Nat.le_refl _) _
  have B2 : Hid (Below w.heap.size w W2) := belowCall B1.out bA B1.out.size
  have O2 : Hid (Oq 35 w.heap.size W2 (.slice ao lo capo) lv) := O1.out.below bA
  have L2 : Hid (Op mf mg 37 w.heap.size W2 (.slice (some ⟨w1.heap.size, 0, none⟩) 0 0) []) := by show Op _ _ _ _ _ _ _; rw [← hW2]; exact Op.lit0 w1 _ B1.out.size
  clear bA S1 B0 O0 O1
  go_wp2
  clear hW2 hW0
  go_loopw [10, 11] (fun lf i wr => ∃ j : Nat, ∃ al cl, ∃ ll : Nat, j ≤ m ∧ i = .int .i64 j ∧ lf = .slice al ll cl ∧ Hid (Below w.heap.size w wr) ∧ Hid (Oq 35 w.heap.size wr (.slice ao lo capo) lv) ∧ Hid (Op mf mg 37 w.heap.size wr (.slice al ll cl) (wof ls xa xb j))) (fun _ i _ => m - (intOf i).toNat)
  case atStart => exact ⟨0, _, _, _, Nat.zero_le _, rfl, rfl, B2.out, O2.out, L2.out⟩
  case round =>
    obtain ⟨j, al, cl, ll, hj, rfl, rfl, BJ, OJ, LJ⟩ := hrel
    clear B2 O2 L2
    have c4 := (BJ.out.cell (p := ⟨b, off + t * 3 + 2, none⟩) hcb).trans d2
    by_cases hlt : j < m
    case neg =>
      obtain rfl : m = j := by omega
      have hlo : lo = n := by have h1 := HLO.out; have h2 := HLV.out; have h3 := HN.out; omega
      subst hlo
      obtain ⟨k, rfl⟩ : ∃ k, ao = some ⟨k, 0, none⟩ := by
        rcases OJ.out.2 with ⟨h, h0⟩ | ⟨k, cap', cur, h, -⟩
        · exfalso
          injection h with _ h2
          omega
        · injection h with h1
          exact ⟨k, h1⟩
      obtain ⟨q1', q2'⟩ := wo_fin (t := t) HLV.out HLO.out HT.out HALL.out OJ.out LJ.out BJ.out
      have HF : Hid (RdS (wr.setCell ⟨k, t * 3 + 2, none⟩ (.slice al ll cl)) (.slice (some ⟨k, 0, none⟩) lo capo) (woS cs t xa xb)) := by
        show RdS _ _ _
        rw [woS]
        rw [HGD.out] at q1' ⊢
        rw [HLS.out, HM.out]
        exact q1'
      have HB : Hid (Below w.heap.size w (wr.setCell ⟨k, t * 3 + 2, none⟩ (.slice al ll cl))) := q2'
      have fr := World.ownsRow.frozenAt (by have := OJ.out; rw [Oq, HLO.out] at this; exact this) (t * 3 + 2)
      have ce : ∃ u, wr.cell? ⟨k, t * 3 + 2, none⟩ = some u := by
        have h1 := World.ownsRow.cellAt (by have := OJ.out; rw [Oq, HLO.out] at this; exact this) (t * 3 + 2) (by omega)
        have h2 := (tq_at lv t (by rw [HLO.out]; exact ht)).2.2
        exact ⟨_, h1.trans h2⟩
      obtain ⟨u, hu⟩ := ce
      clear q1' q2' BJ OJ LJ
      go_wp2
      go_ret
      exact ⟨_, rfl, HF.out, HB.out⟩
    case pos =>
    have hjl : j < ls.length := by rw [HM.out]; exact hlt
    obtain ⟨b2, off2, rfl, h4⟩ : ∃ b off, a2 = some ⟨b, off, none⟩ ∧ _ := by
      rcases H3.out with h | h
      · rw [h] at hjl; simp at hjl
      · exact h
    have hc := h4 j hjl
    have hcb2 : b2 < w.heap.size := block_lt_of_cell hc.1
    obtain ⟨k', o', hr⟩ : ∃ k o, ls[j] = (k, o) := ⟨_, _, rfl⟩
    have HR : Hid (ls[j] = (k', o')) := hr
    rw [hr] at hc
    have e0 := (BJ.out.cell (p := ⟨b2, off2 + j * 2, none⟩) hcb2).trans hc.1
    have e1 := (BJ.out.cell (p := ⟨b2, off2 + j * 2 + 1, none⟩) hcb2).trans hc.2
    clear h4 hc hr
    by_cases ca : (j : Int) = xa
    · have cad : ((j : Int) != xa) = false := by simp [ca]
      have HE : Hid (wof ls xa xb (j + 1) = wof ls xa xb j) := wof_skip ls xa xb j (.inl ca)
      clear ca
      go_wp2
      go_roundw
      case rel => exact ⟨j + 1, _, _, _, by omega, by go_num, rfl, BJ.out, OJ.out, by show Op _ _ _ _ _ _ _; rw [HE.out]; exact LJ.out⟩
      case measure => simp [intOf]; omega
    have cad : ((j : Int) != xa) = true := by simp [ca]
    by_cases cb : (j : Int) = xb
    · have cbd : ((j : Int) != xb) = false := by simp [cb]
      have HE : Hid (wof ls xa xb (j + 1) = wof ls xa xb j) := wof_skip ls xa xb j (.inr cb)
      clear ca cb
      go_wp2
      go_roundw
      case rel => exact ⟨j + 1, _, _, _, by omega, by go_num, rfl, BJ.out, OJ.out, by show Op _ _ _ _ _ _ _; rw [HE.out]; exact LJ.out⟩
      case measure => simp [intOf]; omega
    have cbd : ((j : Int) != xb) = true := by simp [cb]
    have HE : Hid (wof ls xa xb (j + 1) = wof ls xa xb j ++ [(k', o')]) := wof_take ls xa xb j _ hjl HR.out ca cb
    clear ca cb
    obtain ⟨W3, hW3⟩ : ∃ W3, wr.alloc (Obj.cells (H2 k' o') 37) = W3 := ⟨_, rfl⟩
    have bA : Below wr.heap.size wr W3 := by rw [← hW3]; exact (Below.refl _ _).alloc (Nat.le_refl _) _
    have B3 : Hid (Below w.heap.size w W3) := belowCall BJ.out bA BJ.out.size
    have O3 : Hid (Oq 35 w.heap.size W3 (.slice ao lo capo) lv) := OJ.out.below bA
    have L3 : Hid (Op mf mg 37 w.heap.size W3 (.slice al ll cl) (wof ls xa xb j)) := LJ.out.below bA
    have X3 : Hid (Blk W3 wr.heap.size (H2 k' o') 37) := by show Blk _ _ _ _; rw [← hW3]; exact Blk.new _ _ _
    clear bA BJ OJ LJ
    go_wp2_with (at_builtin; refine appNt rfl (.tmp 34) (.tmp 43) rfl w.heap.size _ (wof ls xa xb j) rfl L3.out _ [(k', o')] rfl (Rp.one7 X3.out) (by have := wof_len ls xa xb j; simp; omega) B3.out.size ?_)
    intro v5 w5 o5 g5 _
    have B5 : Hid (Below w.heap.size w w5) := B3.out.trans (grown_lt L3.out g5 (Nat.le_refl _) B3.out.size)
    have O5 : Hid (Oq 35 w.heap.size w5 (.slice ao lo capo) lv) := World.ownsRow.kept O3.out g5 (own_tag O3.out L3.out (by decide))
    have L5 : Hid (Op mf mg 37 w.heap.size w5 v5 (wof ls xa xb (j + 1))) := by show Op _ _ _ _ _ _ _; rw [HE.out]; exact o5
    obtain ⟨a5, c5, rfl⟩ := own_form2 L5.out
    clear o5 g5 B3 O3 L3 X3
    go_wp2
    go_roundw
    case rel => exact ⟨j + 1, _, _, _, by omega, by go_num, rfl, B5.out, O5.out, L5.out⟩
    case measure => simp [intOf]; omega
end Go.Proofs.Ytfaflnhembceoaa
