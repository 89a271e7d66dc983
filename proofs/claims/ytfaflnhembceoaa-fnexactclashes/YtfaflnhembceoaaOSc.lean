/- Subs are had at work; no condition. -/
import Derived.Test.YtfaflnhembceoaaOSb
namespace Go.Proofs.Ytfaflnhembceoaa
open Go.RowKit Go.ChangeShapes Go.WideShapes Go.ChangeAt
set_option linter.unusedVariables false
set_option linter.unusedSimpArgs false
set_option maxRecDepth 8000
theorem Ox.mono {base base' : Nat} {w : World} {v : Value} {fs : Fts} (h : Ox base w v fs) (hb : base' ≤ base) : Ox base' w v fs := by
  refine ⟨h.1, ?_⟩
  rcases h.2 with h2 | ⟨b, cap, cur, hv, hg, r⟩
  · exact .inl h2
  · exact .inr ⟨b, cap, cur, hv, by omega, r⟩
theorem mid_set (lv : List V3) (x y : V3) (r : List V3) : ((lv ++ [x]) ++ r).set lv.length y = (lv ++ [y]) ++ r := by simp [List.set_append]
theorem mid_get (lv : List V3) (x d : V3) (r : List V3) : ((lv ++ [x]) ++ r).getD lv.length d = x := by simp
abbrev RL (p q : Bool) (v : Value) : V3 := (.bool p, .bool q, v)
abbrev lvR (n : Nat) (lv : List V3) (x : V3) : List V3 := (lv ++ [x]) ++ List.replicate (n - (lv ++ [x]).length) zS
theorem lvR_len {n : Nat} {lv : List V3} {x : V3} (h : lv.length < n) : (lvR n lv x).length = n := by simp [lvR]; omega
theorem lvR_set {n : Nat} {lv : List V3} (x y : V3) : (lvR n lv x).set lv.length y = lvR n lv y := by
  have : (lv ++ [x]).length = (lv ++ [y]).length := by simp
  rw [lvR, lvR, mid_set, this]
theorem lvR_get {n : Nat} {lv : List V3} (x d : V3) : (lvR n lv x).getD lv.length d = x := mid_get lv x d _
/-- the last cell of the element in work is set -/
theorem lv_put {g n : Nat} {w : World} {lv : List V3} {p q : Bool} {v v' : Value} (hlt : lv.length < n) (h : w.ownsRow g 101 3 (.slice (some ⟨g, 0, none⟩) n n) n (tq (lvR n lv (RL p q v)))) :
    (w.setCell ⟨g, lv.length * 3 + 2, none⟩ v').ownsRow g 101 3 (.slice (some ⟨g, 0, none⟩) n n) n (tq (lvR n lv (RL p q v'))) := by
  have h1 := (World.ownsRow.stored h (lv.length * 3 + 2) v').1
  rw [tq_set2 _ lv.length v' (by rw [lvR_len hlt]; exact hlt), lvR_get, lvR_set] at h1
  exact h1
def OsR (cs : Sbs) (w : World) (e : Ending) (w' : World) : Prop := ∃ v, e = .returned v ∧ RdL w' v cs ∧ Below w.heap.size w w'
set_option maxHeartbeats 6400000 in
theorem openSubs_c (v : Value) (cs : Sbs) (w : World) (h : RdS w v cs) (hn : cs.length ≤ 1048576) (hm : ∀ c ∈ cs, c.2.2.length ≤ 1048576) : Calls Try.prog 41 #[v] w (OsR cs w) := by
  have HRD : Hid (RdS w v cs) := h
  have HMM : Hid (∀ c ∈ cs, c.2.2.length ≤ 1048576) := hm
  obtain ⟨a, cap, rfl, h1, h2⟩ := h.len
  unfold maxLen at h2
  obtain ⟨n, hnn⟩ : ∃ n, cs.length = n := ⟨_, rfl⟩
  have HN : Hid (cs.length = n) := hnn
  rw [hnn] at h1 hn HRD ⊢
  clear h hnn hm
  obtain ⟨i0, hi, hz0, hz1, hz2⟩ := info_parts info101
  obtain ⟨g0, hg0⟩ : ∃ g0, w.heap.size = g0 := ⟨_, rfl⟩
  have HG0 : Hid (w.heap.size = g0) := hg0
  go_enter Try.func41, Try.ntmps41
  go_wp2_with (at_make; refine wpList_make_full _ rfl _ _ 64 rfl w.heap.size 101 i0 (.agg #[.bool false, .bool false, .slice none 0 0]) 3 Try.underlying64 hi hz0 hz1 .i64 .i64 _ _ n rfl rfl rfl rfl (by rw [hz2]; omega) (by unfold maxLen; omega) (Nat.le_refl _) ?_)
  intro w1 ho hg
  have hx : w1.ownsRow g0 101 3 (.slice (some ⟨g0, 0, none⟩) n n) n (tq ([] ++ List.replicate (n - 0) zS)) := by
    have e : tq ([] ++ List.replicate (n - 0) zS) = (madeCells #[Value.bool false, .bool false, .slice none 0 0] (n * 3)).toList := by rw [tq_replicate zS n]; simp
    rw [e]; exact ho
  have HX : Hid (w1.ownsRow g0 101 3 (.slice (some ⟨g0, 0, none⟩) n n) n (tq ([] ++ List.replicate (n - 0) zS))) := hx
  have B1 : Hid (Below w.heap.size w w1) := grown_below hg (Nat.le_refl _) (by simp)
  clear hg ho hx hg0
  go_wp2
  go_loopw [13] (fun i wr => ∃ lv : List V3, lv.length ≤ n ∧ i = .int .i64 lv.length ∧ Hid (wr.ownsRow g0 101 3 (.slice (some ⟨g0, 0, none⟩) n n) n (tq (lv ++ List.replicate (n - lv.length) zS))) ∧ Hid (DnL (g0 + 1) wr.heap.size wr lv cs) ∧ Hid (Below w.heap.size w wr)) (fun i _ => n - (intOf i).toNat)
  case atStart => exact ⟨[], Nat.zero_le _, rfl, HX.out, fun i h => by simp at h, B1.out⟩
  case round =>
    obtain ⟨lv, hj, rfl, hw, hD, BR⟩ := hrel
    clear HX B1
    by_cases hlt : lv.length < n
    case neg =>
      have hje : lv.length = n := by omega
      have HF : Hid (RdL wr (.slice (some ⟨g0, 0, none⟩) n n) cs) := by
        have hO : Oq 101 g0 wr (.slice (some ⟨g0, 0, none⟩) n n) lv := by
          have := hw.out
          rw [hje] at this
          rw [Oq, hje]; simpa using this
        exact ⟨lv, by rw [HN.out]; exact hje, hO.rd, fun i hi hi' => ⟨(hD.out i hi' hi).1, (hD.out i hi' hi).2.1, (hD.out i hi' hi).2.2.1.rd⟩⟩
      have hneb : ((lv.length : Int) < (n : Int)) = False := by simp; omega
      clear hje hw hD
      go_wp2
      go_ret
      exact ⟨_, rfl, HF.out, BR.out⟩
    case pos =>
    obtain ⟨i, hii⟩ : ∃ i, lv.length = i := ⟨_, rfl⟩
    have HI : Hid (lv.length = i) := hii
    have hin : i < n := by omega
    have hil : i < cs.length := by rw [HN.out]; exact hin
    obtain ⟨b, off, v2, rfl, hcb, hR, d0, d1, d2⟩ := HRD.out.at i hil
    obtain ⟨a2, cap2, rfl, q1, q2, q3⟩ := id hR
    unfold maxLen at q2
    obtain ⟨s, hs⟩ : ∃ s, cs[i] = s := ⟨_, rfl⟩
    have HS : Hid (cs[i] = s) := hs
    have hsm := HMM.out _ (List.getElem_mem hil)
    rw [hs] at hsm d0 d1 d2 q1 q3
    obtain ⟨p, q, fs⟩ := s
    dsimp only at hsm d0 d1 d2 q1 q3
    obtain ⟨L, hL⟩ : ∃ L, fs.length = L := ⟨_, rfl⟩
    have HL : Hid (fs.length = L) := hL
    rw [hL] at hsm d2 q1
    have H3 : Hid (fs = [] ∨ ∃ b off, a2 = some ⟨b, off, none⟩ ∧ ∀ i (h : i < fs.length), w.cell? ⟨b, off + i * 2, none⟩ = some (mf fs[i]) ∧ w.cell? ⟨b, off + i * 2 + 1, none⟩ = some (mg fs[i])) := q3
    have e0 := (BR.out.cell (p := ⟨b, off + i * 3, none⟩) hcb).trans d0
    have e1 := (BR.out.cell (p := ⟨b, off + i * 3 + 1, none⟩) hcb).trans d1
    have e2 := (BR.out.cell (p := ⟨b, off + i * 3 + 2, none⟩) hcb).trans d2
    obtain ⟨W1, hW1⟩ : ∃ W1, wr.alloc (Obj.cells (S3 p q (.slice a2 L cap2)) 35) = W1 := ⟨_, rfl⟩
    have bA : Below wr.heap.size wr W1 := hW1 ▸ (Below.refl _ _).alloc (Nat.le_refl _) _
    have B1 : Hid (Below w.heap.size w W1) := belowCall BR.out bA BR.out.size
    have hgl : g0 < wr.heap.size := (World.ownsRow.lt hw.out g0 rfl).2
    have k1 : Blk W1 wr.heap.size (S3 p q (.slice a2 L cap2)) 35 := hW1 ▸ Blk.new _ _ _
    obtain ⟨gs, hgs⟩ : ∃ gs, wr.heap.size = gs := ⟨_, rfl⟩
    rw [hgs] at k1 hgl
    have hgne : ¬ gs = g0 := by omega
    have x0 := k1.cell 0
    have x1 := k1.cell 1
    have x2 := k1.cell 2
    simp at x0 x1 x2
    have ow1 : W1.ownsRow g0 101 3 (.slice (some ⟨g0, 0, none⟩) n n) n (tq (lv ++ List.replicate (n - lv.length) zS)) := World.ownsRow.kept (row := none) hw.out (below_grown bA) (by simp [Value.ownBlock])
    have hMl : (lv ++ List.replicate (n - lv.length) zS).length = n := by simp; omega
    have hp := tq_at (lv ++ List.replicate (n - lv.length) zS) lv.length (by omega)
    obtain ⟨y0, hd0⟩ : ∃ u, W1.cell? ⟨g0, i * 3, none⟩ = some u := ⟨_, by rw [← hii]; exact (ow1.cellAt (lv.length * 3) (by omega)).trans hp.1⟩
    obtain ⟨y1, hd1⟩ : ∃ u, W1.cell? ⟨g0, i * 3 + 1, none⟩ = some u := ⟨_, by rw [← hii]; exact (ow1.cellAt (lv.length * 3 + 1) (by omega)).trans hp.2.1⟩
    obtain ⟨y2, hd2⟩ : ∃ u, W1.cell? ⟨g0, i * 3 + 2, none⟩ = some u := ⟨_, by rw [← hii]; exact (ow1.cellAt (lv.length * 3 + 2) (by omega)).trans hp.2.2⟩
    have hf0 := ow1.frozenAt (i * 3)
    have hf1 := ow1.frozenAt (i * 3 + 1)
    have hf2 := ow1.frozenAt (i * 3 + 2)
    obtain ⟨W2, hW2⟩ : ∃ W2, ((W1.setCell ⟨g0, i * 3, none⟩ (.bool p)).setCell ⟨g0, i * 3 + 1, none⟩ (.bool q)).setCell ⟨g0, i * 3 + 2, none⟩ (.slice none 0 0) = W2 := ⟨_, rfl⟩
    have HW2 : Hid (((W1.setCell ⟨g0, i * 3, none⟩ (.bool p)).setCell ⟨g0, i * 3 + 1, none⟩ (.bool q)).setCell ⟨g0, i * 3 + 2, none⟩ (.slice none 0 0) = W2) := hW2
    have hO : Oq 101 g0 W1 (.slice (some ⟨g0, 0, none⟩) (lv ++ List.replicate (n - lv.length) zS).length n) (lv ++ List.replicate (n - lv.length) zS) := by rw [Oq, hMl]; exact ow1
    have hSS := own_setq hO lv.length (by omega) (RL p q (.slice none 0 0))
    rw [Oq, List.length_set, hMl, app_set lv n _ _ hlt] at hSS
    rw [hii] at hSS
    have ROW2 : Hid (W2.ownsRow g0 101 3 (.slice (some ⟨g0, 0, none⟩) n n) n (tq (lvR n lv (RL p q (.slice none 0 0))))) := hW2 ▸ hSS
    have gr2 : W1.grownBy W2 (some g0) := hW2 ▸ grown_trans (grown_trans (grown_set W1 _ _ _) (grown_set _ _ _ _)) (grown_set _ _ _ _)
    have B2 : Hid (Below w.heap.size w W2) := hW2 ▸ ((B1.out.setCell (by exact Nat.le_of_eq HG0.out) _).setCell (by exact Nat.le_of_eq HG0.out) _).setCell (by exact Nat.le_of_eq HG0.out) _
    have HD2 : Hid (DnL (g0 + 1) wr.heap.size W2 lv cs) := (hD.out.kp (g := g0) (Kp.below bA) (by omega)).kp (Kp.grown gr2 bA.size (fun k e => .inl (by simpa using e.symm))) (by omega)
    have hsz2 : Hid (wr.heap.size ≤ W2.heap.size ∧ g0 < W2.heap.size) := by have := bA.size; have := gr2.size; exact ⟨by omega, by omega⟩
    rw [hii]
    clear bA k1 ow1 hMl hp hO hSS gr2 hw hD d0 d1 d2 q3 hs hL hR hW2
    go_wp2
    rw [HW2.out]
    go_loopw [29] (fun i2 wx => ∃ j : Nat, ∃ hv : Value, j ≤ L ∧ i2 = .int .i64 j ∧ Hid (wx.ownsRow g0 101 3 (.slice (some ⟨g0, 0, none⟩) n n) n (tq (lvR n lv (RL p q hv)))) ∧ Hid (Ox W2.heap.size wx hv (fs.take j)) ∧ Hid (Kp g0 W2.heap.size W2 wx) ∧ Hid (Below w.heap.size w wx)) (fun i2 _ => L - (intOf i2).toNat)
    case atStart => exact ⟨0, _, Nat.zero_le _, rfl, ROW2.out, World.ownsRow_nil _ _ _ _, ⟨Nat.le_refl _, fun _ _ _ => rfl⟩, B2.out⟩
    case round =>
      obtain ⟨j, hv, hjL, rfl, RW, OX, KP, BX⟩ := hrel
      clear ROW2 B2 HW2 x0 x1 x2 e0 e1 e2 hd0 hd1 hd2 hf0 hf1 hf2
      by_cases hjl : j < L
      case neg =>
        obtain rfl : j = L := by omega
        have HZ : Hid (∃ lv' : List V3, lv'.length = i + 1 ∧ wr.ownsRow g0 101 3 (.slice (some ⟨g0, 0, none⟩) n n) n (tq (lv' ++ List.replicate (n - lv'.length) zS)) ∧ DnL (g0 + 1) wr.heap.size wr lv' cs) := by
          refine ⟨lv ++ [RL p q hv], by simp [HI.out], RW.out, fun k hk hk' => ?_⟩
          have hD3 := HD2.out.kp (g := g0) (w' := wr) ⟨KP.out.1, fun t h1 h2 => KP.out.2 t (by have := hsz2.out.1; omega) h2⟩ (by omega)
          by_cases hkl : k < lv.length
          · obtain ⟨z1, z2, z3, z4⟩ := hD3 k hkl hk'
            simp only [List.getElem_append_left hkl]
            exact ⟨z1, z2, z3, fun t e => by have := z4 t e; have := KP.out.1; have := hsz2.out.1; omega⟩
          · have hke : k = lv.length := by simp at hk; omega
            subst hke
            have hcs : cs[lv.length] = (p, q, fs) := by
              have := HS.out
              simp only [HI.out]; exact this
            simp only [List.getElem_append_right (Nat.le_refl _), Nat.sub_self, List.getElem_cons_zero, hcs]
            have hox := OX.out
            rw [List.take_of_length_le (by rw [HL.out]; omega)] at hox
            refine ⟨by trivial, by trivial, Ox.mono hox (by have := hsz2.out.2; omega), fun t e => (World.ownsRow.lt hox t e).2⟩
        obtain ⟨lv', hl', r1, r2⟩ := HZ.out
        have R1 : Hid (wr.ownsRow g0 101 3 (.slice (some ⟨g0, 0, none⟩) n n) n (tq (lv' ++ List.replicate (n - lv'.length) zS))) := r1
        have R2 : Hid (DnL (g0 + 1) wr.heap.size wr lv' cs) := r2
        have HLL : Hid (lv'.length = i + 1) := hl'
        clear r1 r2 hl' HZ
        go_wp2
        go_roundw
        case rel => exact ⟨lv', by rw [HLL.out]; omega, by rw [HLL.out]; go_num, R1.out, R2.out, BX.out⟩
        case measure => simp [intOf]; omega
      case pos =>
      have hjf : j < fs.length := by rw [HL.out]; exact hjl
      obtain ⟨b2, off2, rfl, h4⟩ : ∃ b off, a2 = some ⟨b, off, none⟩ ∧ _ := by
        rcases H3.out with h | h
        · rw [h] at hjf; simp at hjf
        · exact h
      have hc := h4 j hjf
      have hcb2 : b2 < w.heap.size := block_lt_of_cell hc.1
      obtain ⟨k, o, hr⟩ : ∃ k o, fs[j] = (k, o) := ⟨_, _, rfl⟩
      have HR : Hid (fs[j] = (k, o)) := hr
      rw [hr] at hc
      have e0 := (BX.out.cell (p := ⟨b2, off2 + j * 2, none⟩) hcb2).trans hc.1
      have e1 := (BX.out.cell (p := ⟨b2, off2 + j * 2 + 1, none⟩) hcb2).trans hc.2
      obtain ⟨ah, caph, rfl, hc1, hc2, -⟩ := own_form OX.out
      have htl : (fs.take j).length = j := by simp; omega
      have HTL : Hid ((fs.take j).length = j) := htl
      rw [htl] at RW OX hc1
      obtain ⟨W3, hW3⟩ : ∃ W3, wr.alloc (Obj.cells (H2 k o) 37) = W3 := ⟨_, rfl⟩
      have bB : Below wr.heap.size wr W3 := hW3 ▸ (Below.refl _ _).alloc (Nat.le_refl _) _
      obtain ⟨gb, hgb⟩ : ∃ gb, wr.heap.size = gb := ⟨_, rfl⟩
      have k3 : Blk W3 gb (H2 k o) 37 := hgb ▸ hW3 ▸ Blk.new _ _ _
      have B3 : Hid (Below w.heap.size w W3) := belowCall BX.out bB BX.out.size
      have RW3 : Hid (W3.ownsRow g0 101 3 (.slice (some ⟨g0, 0, none⟩) n n) n (tq (lvR n lv (RL p q (.slice ah j caph))))) := World.ownsRow.kept (row := none) RW.out (below_grown bB) (by simp [Value.ownBlock])
      have OX3 : Hid (Ox W2.heap.size W3 (.slice ah j caph) (fs.take j)) := World.ownsRow.kept (row := none) OX.out (below_grown bB) (by cases (Value.slice ah j caph).ownBlock <;> simp)
      have KP3 : Hid (Kp g0 W2.heap.size W2 W3) := KP.out.trans (Kp.below (bB.mono KP.out.1))
      have hoB : Hid (∀ t, (Value.slice ah j caph).ownBlock = some t → W2.heap.size ≤ t ∧ t < gb) := fun t e => by
        have := World.ownsRow.lt OX.out t e
        rw [hgb] at this; exact this
      have hgw : Hid (W2.heap.size ≤ gb) := by rw [← hgb]; exact KP.out.1
      have KB : Hid (Blk W3 gb (H2 k o) 37) := k3
      have CE : Hid (∀ W : World, W.ownsRow g0 101 3 (.slice (some ⟨g0, 0, none⟩) n n) n (tq (lvR n lv (RL p q (.slice ah j caph)))) → W.cell? ⟨g0, i * 3 + 2, none⟩ = some (.slice ah j caph)) := fun W hW => by
        have hp := tq_at (lvR n lv (RL p q (.slice ah j caph))) lv.length (by rw [lvR_len hlt]; exact hlt)
        have hl2 : (lvR n lv (RL p q (.slice ah j caph)))[lv.length]'(by rw [lvR_len hlt]; exact hlt) = RL p q (.slice ah j caph) := by simp [lvR]
        rw [hl2] at hp
        rw [← HI.out]
        exact (hW.cellAt (lv.length * 3 + 2) (by omega)).trans hp.2.2
      obtain ⟨S, hS⟩ : ∃ S : World → Prop, ∀ W, S W ↔ (W.ownsRow g0 101 3 (.slice (some ⟨g0, 0, none⟩) n n) n (tq (lvR n lv (RL p q (.slice ah j caph)))) ∧ Blk W gb (H2 k o) 37) := ⟨_, fun _ => Iff.rfl⟩
      have z1 : ∀ W : At S, W.wd.cell? ⟨g0, i * 3 + 2, none⟩ = some (.slice ah j caph) := fun W => CE.out _ ((hS _).1 W.ok).1
      have z2 : ∀ W : At S, W.wd.cell? ⟨gb, 0, none⟩ = some (.int .i64 k) := fun W => ((hS _).1 W.ok).2.cell 0
      have z3 : ∀ W : At S, W.wd.cell? ⟨gb, 1, none⟩ = some (.int .i64 o) := fun W => ((hS _).1 W.ok).2.cell 1
      have HSD : Hid (S W3.drew) := (hS _).2 ⟨RW3.out, KB.out⟩
      have ne1 : Nonempty (At S) := ⟨⟨_, HSD.out⟩⟩
      have HSS : Hid (∀ W, S W ↔ (W.ownsRow g0 101 3 (.slice (some ⟨g0, 0, none⟩) n n) n (tq (lvR n lv (RL p q (.slice ah j caph)))) ∧ Blk W gb (H2 k o) 37)) := hS
      clear h4 hc hr htl bB k3 hS CE RW OX KP BX
      go_wp2
      refine region_mixA [true, true, true, true, true, true, true, true, false, false, false, false, false, false] 11 3 S (by kernel_rfl) rfl (by kernel_rfl) (fun _ _ _ _ _ h => h) HSD.out ?_
      simp only [selT, selF]
      repeat (go_big_quiet_step (fail))
      refine wpQuiet_nil ?_
      clear z1 z2 z3 ne1 HSD e0 e1 hW3
      refine tail_step ?_
      go_wp2_with (fail)
      refine (extra_c (k, o) W3.drew).mono ?_
      rintro e w4 ⟨rfl, b4⟩
      have bd4 : Below W3.heap.size W3 w4 := (Below.refl _ _).drew.trans b4
      obtain ⟨T, u, hT⟩ : ∃ t u, exV (k, o) = .iface t u := exV_if k o
      have HT : Hid (exV (k, o) = .iface T u) := hT
      have B4 : Hid (Below w.heap.size w w4) := belowCall B3.out bd4 B3.out.size
      have R4 : Hid (w4.ownsRow g0 101 3 (.slice (some ⟨g0, 0, none⟩) n n) n (tq (lvR n lv (RL p q (.slice ah j caph))))) := World.ownsRow.kept (row := none) RW3.out (below_grown bd4) (by simp [Value.ownBlock])
      have O4 : Hid (Ox W2.heap.size w4 (.slice ah j caph) (fs.take j)) := World.ownsRow.kept (row := none) OX3.out (below_grown bd4) (by cases (Value.slice ah j caph).ownBlock <;> simp)
      have P4 : Hid (Kp g0 W2.heap.size W2 w4) := KP3.out.trans (Kp.below (bd4.mono KP3.out.1))
      have Q4 : Hid (Blk w4 gb (H2 k o) 37) := KB.out.below bd4 KB.out.lt
      rw [hT]
      clear b4 bd4 hT B3 RW3 OX3 KP3 KB
      go_wp2
      refine ⟨(HSS.out _).2 ⟨R4.out, Q4.out⟩, ?_⟩
      obtain ⟨w5, hw5⟩ : ∃ w5, w4.alloc (Obj.cells #[.iface T u] 103) = w5 := ⟨_, rfl⟩
      have bd5 : Below w4.heap.size w4 w5 := hw5 ▸ (Below.refl _ _).alloc (Nat.le_refl _) _
      have B5 : Hid (Below w.heap.size w w5) := belowCall B4.out bd5 B4.out.size
      have R5 : Hid (w5.ownsRow g0 101 3 (.slice (some ⟨g0, 0, none⟩) n n) n (tq (lvR n lv (RL p q (.slice ah j caph))))) := World.ownsRow.kept (row := none) R4.out (below_grown bd5) (by simp [Value.ownBlock])
      have O5 : Hid (Ox W2.heap.size w5 (.slice ah j caph) (fs.take j)) := World.ownsRow.kept (row := none) O4.out (below_grown bd5) (by cases (Value.slice ah j caph).ownBlock <;> simp)
      have P5 : Hid (Kp g0 W2.heap.size W2 w5) := P4.out.trans (Kp.below (bd5.mono P4.out.1))
      have Q5 : Hid (Blk w5 gb (H2 k o) 37) := Q4.out.below bd5 Q4.out.lt
      have X5 : Hid (w5.cell? ⟨w4.heap.size, 0, none⟩ = some (exV (k, o))) := by
        show w5.cell? ⟨w4.heap.size, 0, none⟩ = some (exV (k, o))
        rw [HT.out, ← hw5]; exact (Blk.new w4 #[.iface T u] 103).cell 0
      clear bd5 R4 O4 P4 Q4 B4
      refine tail_step ?_
      go_wp2
      refine ⟨(HSS.out _).2 ⟨R5.out, Q5.out⟩, ?_⟩
      refine tail_step ?_
      go_wp2_with (at_builtin; refine appX rfl (.tmp 39) (.tmp 42) rfl W2.heap.size _ (fs.take j) rfl O5.out w4.heap.size (k, o) rfl X5.out (by rw [HTL.out]; omega) P5.out.1 ?_)
      intro v9 w6 o6 g6
      have hne6 : ∀ t, t = g0 ∨ t = gb → (Value.slice ah j caph).ownBlock = none ∨ (Value.slice ah j caph).ownBlock ≠ some t := fun t ht => by
        rcases hq : (Value.slice ah j caph).ownBlock with _ | z
        · exact .inl rfl
        · refine .inr (fun h => ?_)
          have h1 := hoB.out z hq
          have h2 := hsz2.out.2
          have h3 : z = t := by simpa using h
          rcases ht with h | h <;> omega
      have R6 : Hid (w6.ownsRow g0 101 3 (.slice (some ⟨g0, 0, none⟩) n n) n (tq (lvR n lv (RL p q (.slice ah j caph))))) := World.ownsRow.kept R5.out g6 (.inr (fun h => by
        rcases hne6 g0 (.inl rfl) with h1 | h1
        · rw [h1] at h; cases h
        · exact h1 h.symm))
      have Q6 : Hid (Blk w6 gb (H2 k o) 37) := by
        show Blk w6 gb (H2 k o) 37
        rw [Blk, g6.block gb Q5.out.lt (fun h => by
          rcases hne6 gb (.inr rfl) with h1 | h1
          · rw [h1] at h; cases h
          · exact h1 h.symm)]
        exact Q5.out
      have B6 : Hid (Below w.heap.size w w6) := B5.out.trans (grown_below g6 B5.out.size (fun t e => by have h1 := hoB.out t e; have h2 := hsz2.out.2; have h3 := HG0.out; omega))
      have P6 : Hid (Kp g0 W2.heap.size W2 w6) := P5.out.trans (Kp.grown g6 P5.out.1 (fun t e => .inr (hoB.out t e).1))
      have O6 : Hid (Ox W2.heap.size w6 v9 (fs.take (j + 1))) := by
        show Ox W2.heap.size w6 v9 (fs.take (j + 1))
        rw [List.take_succ_eq_append_getElem (by rw [HL.out]; exact hjl), HR.out]; exact o6
      refine ⟨(HSS.out _).2 ⟨R6.out, Q6.out⟩, ?_⟩
      obtain ⟨a9, cap9, rfl, -⟩ := own_form O6.out
      obtain ⟨L9, hL9⟩ : ∃ L9, (fs.take (j + 1)).length = L9 := ⟨_, rfl⟩
      rw [hL9] at O6 ⊢
      have hp6 := tq_at (lvR n lv (RL p q (.slice ah j caph))) lv.length (by rw [lvR_len hlt]; exact hlt)
      obtain ⟨y6, c6⟩ : ∃ u, w6.cell? ⟨g0, i * 3 + 2, none⟩ = some u := ⟨_, by rw [← HI.out]; exact (R6.out.cellAt (lv.length * 3 + 2) (by omega)).trans hp6.2.2⟩
      have f6 := R6.out.frozenAt (i * 3 + 2)
      have RF : Hid ((w6.setCell ⟨g0, i * 3 + 2, none⟩ (.slice a9 L9 cap9)).ownsRow g0 101 3 (.slice (some ⟨g0, 0, none⟩) n n) n (tq (lvR n lv (RL p q (.slice a9 L9 cap9))))) := by
        have := lv_put (v' := .slice a9 L9 cap9) hlt R6.out
        rw [HI.out] at this; exact this
      have gF := grown_set w6 g0 (i * 3 + 2) (.slice a9 L9 cap9)
      have OF : Hid (Ox W2.heap.size (w6.setCell ⟨g0, i * 3 + 2, none⟩ (.slice a9 L9 cap9)) (.slice a9 L9 cap9) (fs.take (j + 1))) := World.ownsRow.kept O6.out gF (by
        rcases hq : (Value.slice a9 L9 cap9).ownBlock with _ | z
        · exact .inl rfl
        · refine .inr (fun h => ?_)
          have h1 := (World.ownsRow.lt O6.out z hq).1
          have h2 := hsz2.out.2
          have h3 : z = g0 := by simpa using h
          omega)
      have PF : Hid (Kp g0 W2.heap.size W2 (w6.setCell ⟨g0, i * 3 + 2, none⟩ (.slice a9 L9 cap9))) := P6.out.trans (Kp.grown gF P6.out.1 (fun t e => .inl (by simpa using e.symm)))
      have BF : Hid (Below w.heap.size w (w6.setCell ⟨g0, i * 3 + 2, none⟩ (.slice a9 L9 cap9))) := B6.out.setCell (by exact Nat.le_of_eq HG0.out) _
      refine tail_end ?_
      clear o6 g6 hne6 gF hp6 hL9 hw5 R5 O5 P5 Q5 B5 X5 R6 Q6 B6 P6 O6
      go_wp2
      go_roundw
      case rel => exact ⟨j + 1, _, by omega, by go_num, RF.out, OF.out, PF.out, BF.out⟩
      case measure => simp [intOf]; omega
end Go.Proofs.Ytfaflnhembceoaa
