/- The subs at work without some features; no condition. -/
import Derived.Test.YtfaflnhembceoaaClA
import Derived.Test.YtfaflnhembceoaaOSc
import Derived.Test.YtfaflnhembceoaaRjA
namespace Go.Proofs.Ytfaflnhembceoaa
open Go.RowKit Go.ChangeShapes Go.WideShapes Go.ChangeAt
set_option linter.unusedVariables false
set_option linter.unusedSimpArgs false
set_option maxRecDepth 8000
/-- subs behind a row of the call's own -/
theorem appL {ops : Array Oper} {rest : List Oper} {o : Oper} {a : Act} {w : World} {Q : Exit → Act → World → Prop} (hgd : o.guard = none) (s x : Operand)
    (ho : o.op = .call { callee := .builtin .append, args := #[s, x], argTypes := #[64, 64] }) (base : Nat) (v : Value) (l0 : List V3) (hs : a.eval s = v) (hown : Oq 101 base w v l0)
    (v2 : Value) (ls : List V3) (hx : a.eval x = v2) (hr : Rq w v2 ls) (h1c : ∀ u ∈ tq ls, u.oneCell' = true) (hl : l0.length + ls.length ≤ 1099511627776) (hbase : base ≤ w.heap.size)
    (h : ∀ v' w', Oq 101 base w' v' (l0 ++ ls) → w.grownBy w' v.ownBlock → (v'.ownBlock = v.ownBlock ∨ v'.ownBlock = some w.heap.size) → wpList Try.prog ops Q rest (a.put o.dst v') w') : wpList Try.prog ops Q (o :: rest) a w := by
  obtain ⟨i0, hi, hz0, hz1, hz2⟩ := info_parts info101
  obtain ⟨av, cap, rfl, h1, h2, h3⟩ := hr
  by_cases hav : av = none
  · subst hav
    have hl0 : ls = [] := by
      rcases h3 with h3 | ⟨b, off, e, -⟩
      · exact h3
      · cases e
    subst hl0
    refine wpList_plain hgd fun K hK => ?_
    have hx' : a.eval x = .slice none 0 cap := hx
    obtain ⟨v', w', hr, q1, q2, q3⟩ : ∃ v' w', (Builtin.append_ #[64, 64] o.type #[v, .slice none 0 cap]).run Try.prog w = .ok v' w' ∧ Oq 101 base w' v' (l0 ++ []) ∧ w.grownBy w' v.ownBlock ∧ (v'.ownBlock = v.ownBlock ∨ v'.ownBlock = some w.heap.size) := by
      refine ⟨v, w, ?_, by simpa using hown, grown_refl _ _, .inl rfl⟩
      rcases hown.2 with ⟨rfl, h0⟩ | ⟨g, cp, cur, rfl, _, _, hnc, _⟩
      · simp [Builtin.append_, run_underlying Try.underlying64, sizeOf, typeInfo, hi, Builtin.lenOf, Builtin.firstCells]
      · simp [Builtin.append_, run_underlying Try.underlying64, sizeOf, typeInfo, hi, Builtin.lenOf, Builtin.firstCells, hnc, storeCells]
    unfold Oper.wp execOp
    simp only [ho, resolve, invoke, builtin, Sem.run_bind, Sem.run_pure, Result.andThen_ok, List.map_toArray, List.map_cons, List.map_nil, hs, hx', hr]
    exact hK _ _ (h v' w' q1 q2 q3)
  · obtain ⟨ad, rfl⟩ : ∃ ad, av = some ad := by cases av with | none => exact absurd rfl hav | some ad => exact ⟨ad, rfl⟩
    refine wpList_append_own_at w hgd s x 64 ho base 101 i0 (.agg #[.bool false, .bool false, .slice none 0 0]) 3 32 Try.underlying64 hi hz0 hz1 hz2 rfl (by decide) v l0.length (tq l0) hs hown ad ls.length cap (tq ls) hx (tq_len _) ?_ h1c ?_ ?_ hbase ?_
    · rcases h3 with rfl | ⟨b, off, e, h4⟩
      · intro j u hu; simp [tq] at hu
      · cases e
        intro j u hu
        have hj : j < (tq ls).length := (List.getElem?_eq_some_iff.1 hu).1
        rw [tq_len] at hj
        have hq : j / 3 < ls.length := by omega
        have t := tq_at ls (j / 3) hq
        have c := h4 (j / 3) hq
        have hd : j = j / 3 * 3 ∨ j = j / 3 * 3 + 1 ∨ j = j / 3 * 3 + 2 := by omega
        rcases hd with hd | hd | hd
        · rw [hd, t.1] at hu
          rw [hd, ← Option.some.inj hu]
          rw [addAt]; exact c.1
        · rw [hd, t.2.1] at hu
          rw [hd, ← Option.some.inj hu]
          rw [addAt]; exact c.2.1
        · rw [hd, t.2.2] at hu
          rw [hd, ← Option.some.inj hu]
          rw [addAt]; exact c.2.2
    · unfold maxLen; omega
    · omega
    · intro v' w' g1 g2 g3 g4
      refine h v' w' ?_ g2 g4
      rw [Oq, tq_app, List.length_append]; exact g1

theorem Oq.litL (w : World) (base : Nat) (hb : base ≤ w.heap.size) : Oq 101 base (w.alloc (.cells #[] 101)) (.slice (some ⟨w.heap.size, 0, none⟩) 0 0) [] := World.ownsRow_lit w #[] 0 hb (by simp) (by simp)
theorem Rx.slice {w : World} {v : Value} {fs : Fts} (h : Rx w v fs) : ∃ a cap, v = .slice a fs.length cap := by obtain ⟨a, cap, e, -⟩ := h; exact ⟨a, cap, e⟩
set_option maxHeartbeats 1600000 in
theorem cloneL_c (b off n cap : Nat) (lv : List V3) (w : World) (h : Rq w (.slice (some ⟨b, off, none⟩) n cap) lv) (h1c : ∀ u ∈ tq lv, u.oneCell' = true) (hn : lv.length ≤ 1000) : Calls Try.prog 95 #[.slice (some ⟨b, off, none⟩) n cap] w fun e w' => ∃ v', e = .returned v' ∧ Oq 101 w.heap.size w' v' lv ∧ Below w.heap.size w w' := by
  have HQ : Hid (Rq w (.slice (some ⟨b, off, none⟩) n cap) lv) := h
  have H1C : Hid (∀ u ∈ tq lv, u.oneCell' = true) := h1c
  obtain ⟨W0, hW0⟩ : ∃ W0, w.alloc (Obj.cells #[] 101) = W0 := ⟨_, rfl⟩
  have B0 : Hid (Below w.heap.size w W0) := by show Below _ _ _; rw [← hW0]; exact (Below.refl _ _).alloc (Nat.le_refl _) _
  have O0 : Hid (Oq 101 w.heap.size W0 (.slice (some ⟨w.heap.size, 0, none⟩) 0 0) []) := by show Oq _ _ _ _ _; rw [← hW0]; exact Oq.litL w _ (Nat.le_refl _)
  have q64 : ∀ (w : World) (a : Option Addr) (n c n' c' : Nat), (binOp .eql 64 (.slice a n c) (.slice none n' c')).run Try.prog w = .ok (.bool a.isNone) w := fun w a n c n' c' => Lib.run_eql_slice_nil w _ _ a n c n' c' Try.underlying64
  clear h h1c
  go_enter Try.func95, Try.ntmps95
  go_wp2_with (at_builtin; refine appL rfl (.tmp 5) (.tmp 6) rfl w.heap.size _ [] rfl O0.out _ lv rfl (HQ.out.below B0.out) H1C.out (by simp; omega) B0.out.size ?_)
  intro vo w1 o1 g1' _
  have O1 : Hid (Oq 101 w.heap.size w1 vo lv) := o1
  have B1 : Hid (Below w.heap.size w w1) := B0.out.trans (grown_lt O0.out g1' (Nat.le_refl _) B0.out.size)
  clear o1 g1' B0 O0
  obtain ⟨ao, capo, rfl, -⟩ := own_form O1.out
  go_wp2
  go_ret
  exact ⟨_, rfl, O1.out, B1.out⟩
/-- subs at work, one of which has its features at work in hand -/
theorem wl_put {w : World} {k n cap t B : Nat} {lv : List V3} {x : Value} (hn : lv.length = n) (ht : t < lv.length) (ho : Oq 101 B w (.slice (some ⟨k, 0, none⟩) n cap) (lv.set t (lv[t].1, lv[t].2.1, x))) (y : Value) :
    Oq 101 B (w.setCell ⟨k, t * 3 + 2, none⟩ y) (.slice (some ⟨k, 0, none⟩) n cap) (lv.set t (lv[t].1, lv[t].2.1, y)) := by
  subst hn
  have ho' : w.ownsRow B 101 3 (.slice (some ⟨k, 0, none⟩) lv.length cap) lv.length (tq (lv.set t (lv[t].1, lv[t].2.1, x))) := by
    have := ho; unfold Oq at this; rw [List.length_set] at this; exact this
  have hst := (World.ownsRow.stored ho' (t * 3 + 2) y).1
  rw [tq_set2 _ t y (by rw [List.length_set]; exact ht)] at hst
  rw [show (lv.set t (lv[t].1, lv[t].2.1, x)).getD t (y, y, y) = (lv[t].1, lv[t].2.1, x) by simp [List.getD_eq_getElem?_getD, ht]] at hst
  rw [List.set_set] at hst
  unfold Oq; rw [List.length_set]; exact hst
theorem wl_id {lv : List V3} {t : Nat} (ht : t < lv.length) : lv.set t (lv[t].1, lv[t].2.1, lv[t].2.2) = lv := by
  rw [show (lv[t].1, lv[t].2.1, lv[t].2.2) = lv[t] from rfl]; exact List.set_getElem_self ht
theorem wl_fin {w W : World} {v : Value} {t : Nat} {lv : List V3} {cs : Sbs} {fv : Value} {fs : Fts} (hl : lv.length = cs.length) (ht : t < cs.length) (ht' : t < lv.length)
    (hall : ∀ i (h : i < cs.length) (h' : i < lv.length), lv[i].1 = .bool cs[i].1 ∧ lv[i].2.1 = .bool cs[i].2.1 ∧ Rx w lv[i].2.2 cs[i].2.2)
    (ho : Oq 101 w.heap.size W v (lv.set t (lv[t].1, lv[t].2.1, fv))) (hf : Ox w.heap.size W fv fs) (hb : Below w.heap.size w W) :
    RdL W v (cs.set t ((cs.getD t sb0).1, (cs.getD t sb0).2.1, fs)) := by
  have hcd : cs.getD t sb0 = cs[t] := by rw [List.getD_eq_getElem?_getD, List.getElem?_eq_getElem ht]; rfl
  rw [hcd]
  refine ⟨lv.set t (lv[t].1, lv[t].2.1, fv), by simp [hl], ho.rd, fun i hi hi' => ?_⟩
  by_cases e : i = t
  · subst e
    simp only [List.getElem_set_self]
    exact ⟨(hall i ht ht').1, (hall i ht ht').2.1, hf.rd⟩
  · have e1 : i < cs.length := by simpa using hi
    have e2 : i < lv.length := by simpa using hi'
    simp only [List.getElem_set_ne (show t ≠ i by omega)]
    obtain ⟨a1, a2, a3⟩ := hall i e1 e2
    exact ⟨a1, a2, a3.below hb⟩
set_option maxHeartbeats 3200000 in
theorem withoutI_c (v v2 : Value) (cs : Sbs) (t : Nat) (zs : List Int) (xa xb : Int) (w : World) (h : RdL w v cs) (ht : t < cs.length) (hn : cs.length ≤ 1000) (hm : (cs.getD t sb0).2.2.length ≤ 1000) (hz : Rd .i64 w v2 zs) (hab : ∀ j : Nat, (j : Int) ∈ zs ↔ ((j : Int) = xa ∨ (j : Int) = xb)) :
   Calls Try.prog 76 #[v, .int .i64 (t : Int), v2] w fun e w' => ∃ v', e = .returned v' ∧ RdL w' v' (woS cs t xa xb) ∧ Below w.heap.size w w' := by
  have HRD : Hid (RdL w v cs) := h
  obtain ⟨lv, hlv, hq, hall⟩ := h
  obtain ⟨a, cap, hv, g1, g2⟩ := HRD.out.len
  subst hv
  unfold maxLen at g2
  obtain ⟨b, off, v3, rfl, hcb, hR, d0, d1, d2⟩ := HRD.out.at t ht
  obtain ⟨a2, cap2, rfl, q1, q2, q3⟩ := id hR
  unfold maxLen at q2
  have hgd : cs.getD t sb0 = cs[t] := by rw [List.getD_eq_getElem?_getD, List.getElem?_eq_getElem ht]; rfl
  obtain ⟨ls, hls⟩ : ∃ ls, cs[t].2.2 = ls := ⟨_, rfl⟩
  rw [hgd, hls] at hm
  rw [hls] at d2 q1 q3
  obtain ⟨m, hmm⟩ : ∃ m, ls.length = m := ⟨_, rfl⟩
  have HM : Hid (ls.length = m) := hmm
  have H3 : Hid (ls = [] ∨ ∃ b off, a2 = some ⟨b, off, none⟩ ∧ ∀ i (h : i < ls.length), w.cell? ⟨b, off + i, none⟩ = some (exV ls[i])) := q3
  rw [hmm] at d2 q1 hm
  have HAB : Hid (∀ j : Nat, (j : Int) ∈ zs ↔ ((j : Int) = xa ∨ (j : Int) = xb)) := hab
  have HZ : Hid (Rd .i64 w v2 zs) := hz
  have HLV : Hid (lv.length = cs.length) := hlv
  have HALL : Hid (∀ i (h : i < cs.length) (h' : i < lv.length), lv[i].1 = .bool cs[i].1 ∧ lv[i].2.1 = .bool cs[i].2.1 ∧ Rx w lv[i].2.2 cs[i].2.2) := hall
  have H1C : Hid (∀ u ∈ tq lv, u.oneCell' = true) := by
    intro u hu
    obtain ⟨j, e⟩ := List.getElem?_of_mem hu
    have hj : j < (tq lv).length := (List.getElem?_eq_some_iff.1 e).1
    rw [tq_len] at hj
    have hq' : j / 3 < lv.length := by omega
    have tt := tq_at lv (j / 3) hq'
    obtain ⟨p1, p2, p3⟩ := hall (j / 3) (by omega) hq'
    have hd : j = j / 3 * 3 ∨ j = j / 3 * 3 + 1 ∨ j = j / 3 * 3 + 2 := by omega
    rcases hd with hd | hd | hd
    · rw [hd, tt.1, p1] at e
      rw [← Option.some.inj e]; rfl
    · rw [hd, tt.2.1, p2] at e
      rw [← Option.some.inj e]; rfl
    · rw [hd, tt.2.2] at e
      obtain ⟨a', cap', e', -⟩ := p3
      rw [e'] at e
      rw [← Option.some.inj e]; rfl
  have HGD : Hid (cs.getD t sb0 = cs[t]) := hgd
  have HLS : Hid (cs[t].2.2 = ls) := hls
  obtain ⟨n, hnn⟩ : ∃ n, cs.length = n := ⟨_, rfl⟩
  have HN : Hid (cs.length = n) := hnn
  have HT : Hid (t < cs.length) := ht
  have HQ : Hid (Rq w (.slice (some ⟨b, off, none⟩) n cap) lv) := by show Rq _ _ _; rw [← hnn]; exact hq
  rw [hnn] at g1 hn ht ⊢
  obtain ⟨az, cz, hvz, -⟩ := id hz
  subst hvz
  obtain ⟨lz, hlz⟩ : ∃ lz, zs.length = lz := ⟨_, rfl⟩
  rw [hlz] at HZ ⊢
  clear d0 d1 hls hgd hmm hq hlv hall q3 hR hnn hz hab hlz
  go_enter Try.func76, Try.ntmps76
  go_wp2_with (fail)
  refine (cloneL_c b off n cap lv w HQ.out H1C.out (by have := HLV.out; have := HN.out; omega)).mono ?_
  rintro e w1 ⟨vo, rfl, o1, b1⟩
  have hlo : lv.length = n := HLV.out.trans HN.out
  have HLO : Hid (lv.length = n) := hlo
  obtain ⟨ao, capo, rfl, -⟩ := own_form o1
  obtain ⟨k, rfl⟩ : ∃ k, ao = some ⟨k, 0, none⟩ := by
    rcases o1.2 with ⟨h, h0⟩ | ⟨k, cap', cur, h, -⟩
    · exfalso
      injection h with _ h2
      omega
    · injection h with h1
      exact ⟨k, h1⟩
  have htl : t < lv.length := by omega
  rw [hlo] at o1 ⊢
  have o1' : Oq 101 w.heap.size w1 (.slice (some ⟨k, 0, none⟩) n capo) (lv.set t (lv[t].1, lv[t].2.1, lv[t].2.2)) := by rw [wl_id htl]; exact o1
  have HK : Hid (w.heap.size ≤ k) := (World.ownsRow.lt o1 k rfl).1
  have O2 : Hid (Oq 101 w.heap.size (w1.setCell ⟨k, t * 3 + 2, none⟩ (.slice none 0 0)) (.slice (some ⟨k, 0, none⟩) n capo) (lv.set t (lv[t].1, lv[t].2.1, .slice none 0 0))) := wl_put hlo htl o1' _
  have B2 : Hid (Below w.heap.size w (w1.setCell ⟨k, t * 3 + 2, none⟩ (.slice none 0 0))) := b1.setCell HK.out _
  have fr := World.ownsRow.frozenAt (by have := o1; rw [Oq, hlo] at this; exact this) (t * 3 + 2)
  obtain ⟨u0, hu0⟩ : ∃ u, w1.cell? ⟨k, t * 3 + 2, none⟩ = some u := by
    have h1 := World.ownsRow.cellAt (by have := o1; rw [Oq, hlo] at this; exact this) (t * 3 + 2) (by omega)
    exact ⟨_, h1.trans (tq_at lv t htl).2.2⟩
  obtain ⟨W2, hW2⟩ : ∃ W, w1.setCell ⟨k, t * 3 + 2, none⟩ (.slice none 0 0) = W := ⟨_, rfl⟩
  rw [hW2] at O2 B2
  have L2 : Hid (Ox w.heap.size W2 (.slice none 0 0) (wof ls xa xb 0)) := World.ownsRow_nil W2 _ _ _
  have c2 := (B2.out.cell (p := ⟨b, off + t * 3 + 2, none⟩) hcb).trans d2
  have HTL : Hid (t < lv.length) := htl
  clear o1 o1' b1 hlo
  go_wp2
  clear hW2 fr hu0 c2
  go_loopw [22] (fun i wr => ∃ j : Nat, ∃ al cl, ∃ ll : Nat, j ≤ m ∧ i = .int .i64 j ∧ Hid (Below w.heap.size w wr) ∧ Hid (Oq 101 w.heap.size wr (.slice (some ⟨k, 0, none⟩) n capo) (lv.set t (lv[t].1, lv[t].2.1, .slice al ll cl))) ∧ Hid (Ox w.heap.size wr (.slice al ll cl) (wof ls xa xb j))) (fun i _ => m - (intOf i).toNat)
  case atStart => exact ⟨0, _, _, _, Nat.zero_le _, rfl, B2.out, O2.out, L2.out⟩
  case round =>
    obtain ⟨j, al, cl, ll, hj, rfl, BJ, OJ, LJ⟩ := hrel
    clear B2 O2 L2
    by_cases hlt : j < m
    case neg =>
      obtain rfl : m = j := by omega
      have HF : Hid (RdL wr (.slice (some ⟨k, 0, none⟩) n capo) (woS cs t xa xb)) := by
        have q := wl_fin HLV.out HT.out HTL.out HALL.out OJ.out LJ.out BJ.out
        show RdL _ _ _
        rw [woS]
        rw [HGD.out] at q ⊢
        rw [HLS.out, HM.out]
        exact q
      go_wp2
      go_ret
      exact ⟨_, rfl, HF.out, BJ.out⟩
    case pos =>
    have hjl : j < ls.length := by rw [HM.out]; exact hlt
    obtain ⟨b2, off2, rfl, h4⟩ : ∃ b off, a2 = some ⟨b, off, none⟩ ∧ _ := by
      rcases H3.out with h | h
      · rw [h] at hjl; simp at hjl
      · exact h
    have hc := h4 j hjl
    have hcb2 : b2 < w.heap.size := block_lt_of_cell hc
    obtain ⟨r, hr⟩ : ∃ r, ls[j] = r := ⟨_, rfl⟩
    have HR : Hid (ls[j] = r) := hr
    rw [hr] at hc
    obtain ⟨T, u, hT⟩ : ∃ t u, exV r = .iface t u := exV_if r.1 r.2
    have HTT : Hid (exV r = .iface T u) := hT
    have e0 := (BJ.out.cell (p := ⟨b2, off2 + j, none⟩) hcb2).trans hc
    rw [hT] at e0
    clear h4 hc hr hT
    have HZJ : Hid (Rd .i64 wr (.slice az lz cz) zs) := HZ.out.below BJ.out
    go_wp2_with (fail)
    refine (containsI_c _ zs j wr HZJ.out).mono ?_
    rintro e wz ⟨rfl, hwz⟩
    rw [hwz]
    clear hwz wz HZJ e0
    by_cases ci : (j : Int) ∈ zs
    · rw [decide_eq_true ci]
      have HE : Hid (wof ls xa xb (j + 1) = wof ls xa xb j) := wof_skip ls xa xb j ((HAB.out j).1 ci)
      clear ci
      go_wp2
      go_roundw
      case rel => exact ⟨j + 1, _, _, _, by omega, by go_num, BJ.out, OJ.out, by show Ox _ _ _ _; rw [HE.out]; exact LJ.out⟩
      case measure => simp [intOf]; omega
    rw [decide_eq_false ci]
    have HE : Hid (wof ls xa xb (j + 1) = wof ls xa xb j ++ [r]) := wof_take ls xa xb j _ hjl HR.out (fun h => ci ((HAB.out j).2 (.inl h))) (fun h => ci ((HAB.out j).2 (.inr h)))
    clear ci
    obtain ⟨W3, hW3⟩ : ∃ W3, wr.alloc (Obj.cells #[.iface T u] 103) = W3 := ⟨_, rfl⟩
    have bA : Below wr.heap.size wr W3 := by rw [← hW3]; exact (Below.refl _ _).alloc (Nat.le_refl _) _
    have B3 : Hid (Below w.heap.size w W3) := belowCall BJ.out bA BJ.out.size
    have O3 : Hid (Oq 101 w.heap.size W3 (.slice (some ⟨k, 0, none⟩) n capo) (lv.set t (lv[t].1, lv[t].2.1, .slice al ll cl))) := OJ.out.below bA
    have L3 : Hid (Ox w.heap.size W3 (.slice al ll cl) (wof ls xa xb j)) := World.ownsRow.kept LJ.out (below_grown bA) (by cases Value.ownBlock _ <;> simp)
    have X3 : Hid (W3.cell? ⟨wr.heap.size, 0, none⟩ = some (exV r)) := by
      show _ = _
      rw [HTT.out, ← hW3]; exact (Blk.new wr #[.iface T u] 103).cell 0
    have ce : wr.cell? ⟨k, t * 3 + 2, none⟩ = some (.slice al ll cl) := by
      have ho := OJ.out
      rw [Oq, List.length_set, HLO.out] at ho
      have h1 := World.ownsRow.cellAt ho (t * 3 + 2) (by omega)
      have h2 := (tq_at (lv.set t (lv[t].1, lv[t].2.1, .slice al ll cl)) t (by rw [List.length_set]; exact HTL.out)).2.2
      rw [h1, h2]; simp
    clear bA BJ OJ LJ
    go_wp2_with (at_builtin; refine appX rfl (.tmp 37) (.tmp 39) rfl w.heap.size _ (wof ls xa xb j) rfl L3.out _ r rfl X3.out (by have := wof_len ls xa xb j; omega) B3.out.size ?_)
    intro v5 w5 o5 g5
    have B5 : Below w.heap.size w w5 := B3.out.trans (grown_lt L3.out g5 (Nat.le_refl _) B3.out.size)
    have O5 : Oq 101 w.heap.size w5 (.slice (some ⟨k, 0, none⟩) n capo) (lv.set t (lv[t].1, lv[t].2.1, .slice al ll cl)) := World.ownsRow.kept O3.out g5 (own_tag O3.out L3.out (by decide))
    have O6 : Hid (Oq 101 w.heap.size (w5.setCell ⟨k, t * 3 + 2, none⟩ v5) (.slice (some ⟨k, 0, none⟩) n capo) (lv.set t (lv[t].1, lv[t].2.1, v5))) := wl_put HLO.out HTL.out O5 v5
    have L6 : Hid (Ox w.heap.size (w5.setCell ⟨k, t * 3 + 2, none⟩ v5) v5 (wof ls xa xb (j + 1))) := by
      show Ox _ _ _ _
      rw [HE.out]
      exact World.ownsRow.kept o5 (grown_set w5 k (t * 3 + 2) v5) (own_tag o5 O5 (by decide))
    have B6 : Hid (Below w.heap.size w (w5.setCell ⟨k, t * 3 + 2, none⟩ v5)) := B5.setCell HK.out _
    have o5' : w5.ownsRow w.heap.size 101 3 (.slice (some ⟨k, 0, none⟩) n capo) n (tq (lv.set t (lv[t].1, lv[t].2.1, .slice al ll cl))) := by
      have ho := O5
      rw [Oq, List.length_set, HLO.out] at ho; exact ho
    have fr := World.ownsRow.frozenAt o5' (t * 3 + 2)
    obtain ⟨u0, hu0⟩ : ∃ u, w5.cell? ⟨k, t * 3 + 2, none⟩ = some u := by
      have h1 := World.ownsRow.cellAt o5' (t * 3 + 2) (by omega)
      exact ⟨_, h1.trans (tq_at (lv.set t (lv[t].1, lv[t].2.1, .slice al ll cl)) t (by rw [List.length_set]; exact HTL.out)).2.2⟩
    obtain ⟨a5, c5, rfl, -⟩ := own_form L6.out
    clear o5 g5 B3 O3 L3 X3 O5 B5 o5' ce
    go_wp2
    go_roundw
    case rel => exact ⟨j + 1, _, _, _, by omega, by go_num, B6.out, O6.out, L6.out⟩
    case measure => simp [intOf]; omega
end Go.Proofs.Ytfaflnhembceoaa
