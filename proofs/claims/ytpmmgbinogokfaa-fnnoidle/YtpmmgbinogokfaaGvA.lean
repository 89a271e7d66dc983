/- All callers given that can be; no condition. -/
import Derived.Test.YtpmmgbinogokfaaGiv
namespace Go.Proofs.Ytpmmgbinogokfaa
open Go.RowKit Go.ChangeShapes Go.WideShapes Go.ChangeAt
set_option linter.unusedVariables false
set_option linter.unusedSimpArgs false
set_option maxRecDepth 8000
def qLen (L : Nat) (W : World) : Nat := match W.cell? ⟨L, 2, none⟩ with
  | some (.slice _ n _) => n
  | _ => 0
theorem Lv.qLen {B : Nat} {W : World} {L : Nat} {now g : Int} {va vq vc : Value} {gs : List Ag} {qs : List Wt} {cs : List Int} (h : Lv B W L now g va vq vc gs qs cs) : qLen L W = qs.length := by
  have h1 := h.blk.cell 2
  obtain ⟨a, c, h2, -⟩ := h.qu
  simp at h1
  rw [Go.Proofs.Ytpmmgbinogokfaa.qLen, h1, h2]
/-- what stands while callers are given -/
structure Gv (B L P : Nat) (now g : Int) (gs : List Ag) (qs : List Wt) (cs : List Int) (w wr : World) (gs1 : List Ag) (qs1 : List Wt) (ds : List Int) (va1 vq1 vc1 : Value) (f1 : Nat) : Prop where
  lv : Lv B wr L now (g + ds.length) va1 vq1 vc1 gs1 qs1 (cs ++ ds)
  sk : SkOk gs1
  ca : CaOk qs1
  fr : free gs1 ≤ f1
  le : ds.length + f1 ≤ gs.length
  gl : gs1.length = gs.length
  ql : qs1.length ≤ qs.length
  eq : giveN now gs.length gs qs = ((giveN now f1 gs1 qs1).1, (giveN now f1 gs1 qs1).2.1, ds ++ (giveN now f1 gs1 qs1).2.2)
  bx : Blk wr P #[.pointer (some ⟨L, 0, none⟩)] 79
  bel : Below B w wr
theorem Gv.next {B L P : Nat} {now g : Int} {gs : List Ag} {qs : List Wt} {cs : List Int} {w wr w' : World} {gs1 : List Ag} {qs1 : List Wt} {ds : List Int} {va1 vq1 vc1 va' vq' vc' : Value} {f1 p a : Nat} {q : Wt} {x : Ag} (h : Gv B L P now g gs qs cs w wr gs1 qs1 ds va1 vq1 vc1 f1) (hn : nxt gs1 qs1 = some p) (hq : qs1[p]? = some q) (ht : taker gs1 q.2.1 = some a) (hx : gs1[a]? = some x)
    (hl : Lv B w' L now (g + ds.length + 1) va' vq' vc' (gs1.set a (x.1, q.1, now)) (qs1.eraseIdx p) (cs ++ ds ++ [q.1])) (hb : Below B wr w') (hf : Fr (fun k => k = L ∨ va1.ownBlock = some k ∨ vc1.ownBlock = some k) wr w') :
    ∃ f2, Gv B L P now g gs qs cs w w' (gs1.set a (x.1, q.1, now)) (qs1.eraseIdx p) (ds ++ [q.1]) va' vq' vc' f2 := by
  have hg1 : giveOne now gs1 qs1 = some (gs1.set a (x.1, q.1, now), qs1.eraseIdx p, q.1) := by simp [giveOne, hn, hq, ht, setA, hx]
  obtain ⟨h1, h2, h3, h4⟩ := giveOne_free h.ca hg1
  have hf1 : 0 < f1 := by have := h.fr; omega
  obtain ⟨f2, rfl⟩ : ∃ f2, f1 = f2 + 1 := ⟨f1 - 1, by omega⟩
  refine ⟨f2, ⟨?_, giveOne_sk h.sk hg1, h4, by have := h.fr; omega, by have := h.le; simp; omega, by rw [h2, h.gl], by have := h.ql; omega, ?_, ?_, h.bel.trans hb⟩⟩
  · rw [show ((ds ++ [q.1]).length : Int) = ds.length + 1 by simp, ← List.append_assoc, ← Int.add_assoc]; exact hl
  · rw [h.eq, giveN, hg1]; simp
  · rw [Blk, hf.block P h.bx.lt]
    · exact h.bx
    · rintro (e | e | e)
      · have h5 := h.lv.blk
        have h6 := h.bx
        rw [Blk, e, h5] at h6
        cases h6
      · rcases h.lv.ag.2 with ⟨h7, -⟩ | ⟨b, cap, cur, h7, -, h8, -⟩
        · rw [h7] at e; cases e
        · rw [h7] at e; simp [Value.ownBlock] at e
          have h6 := h.bx
          rw [Blk, ← e, h8] at h6
          cases h6
      · rcases h.lv.ca.2 with ⟨h7, -⟩ | ⟨b, cap, cur, h7, -, h8, -⟩
        · rw [h7] at e; cases e
        · rw [h7] at e; simp [Value.ownBlock] at e
          have h6 := h.bx
          rw [Blk, ← e, h8] at h6
          cases h6
set_option maxHeartbeats 6400000 in
theorem giveAll_c (B L : Nat) (now g : Int) (va vq vc : Value) (gs : List Ag) (qs : List Wt) (w : World) (h : Lv B w L now g va vq vc gs qs []) (hs : SkOk gs) (hc : CaOk qs) (hn : qs.length ≤ 1048576) (hgn : gs.length ≤ 1048576) (hg0 : 0 ≤ g) (hg1 : g ≤ 900000000) :
   Calls Try.prog 49 #[.pointer (some ⟨L, 0, none⟩)] w fun e w' => e = .returned (.tuple #[]) ∧ (∃ va' vq' vc', Lv B w' L now (g + (giveN now gs.length gs qs).2.2.length) va' vq' vc' (giveN now gs.length gs qs).1 (giveN now gs.length gs qs).2.1 (giveN now gs.length gs qs).2.2) ∧ Below B w w' := by
  obtain ⟨W0, hW0⟩ : ∃ W0, w.alloc (Obj.cells #[.pointer (some ⟨L, 0, none⟩)] 79) = W0 := ⟨_, rfl⟩
  have hBw : B ≤ w.heap.size := Nat.le_trans h.lb (Nat.le_of_lt h.blk.lt)
  have b0 : Below w.heap.size w W0 := hW0 ▸ (Below.refl _ _).alloc (Nat.le_refl _) _
  have k0 : Blk W0 w.heap.size #[.pointer (some ⟨L, 0, none⟩)] 79 := hW0 ▸ Blk.new _ _ _
  have HG0 : Hid (Gv B L w.heap.size now g gs qs [] w W0 gs qs [] va vq vc gs.length) := by
    refine ⟨?_, hs, hc, free_le gs, by simp, rfl, Nat.le_refl _, by simp, k0, b0.mono hBw⟩
    have := h.below b0
    simpa using this
  obtain ⟨R, hR⟩ : ∃ R, giveN now gs.length gs qs = R := ⟨_, rfl⟩
  have HR : Hid (giveN now gs.length gs qs = R) := hR
  rw [hR]
  have HW0 : Hid (w.alloc (Obj.cells #[.pointer (some ⟨L, 0, none⟩)] 79) = W0) := hW0
  obtain ⟨P, hP⟩ : ∃ P, w.heap.size = P := ⟨_, rfl⟩
  have HPP : Hid (w.heap.size = P) := hP
  rw [hP] at HG0
  clear hW0 b0 k0 h hR hs hc hP
  go_enter Try.func49, Try.ntmps49
  go_wp2
  rw [HW0.out, HPP.out]
  clear HW0
  go_loopw [3] (fun _ wr => ∃ gs1 qs1 ds va1 vq1 vc1 f1, Hid (Gv B L P now g gs qs [] w wr gs1 qs1 ds va1 vq1 vc1 f1)) (fun _ wr => qLen L wr)
  case atStart => exact ⟨_, _, _, _, _, _, _, HG0.out⟩
  case round =>
    clear HG0
    obtain ⟨gs1, qs1, ds, va1, vq1, vc1, f1, HG⟩ := hrel
    have x0 := HG.out.bx.cell 0
    have x2 := HG.out.lv.blk.cell 2
    simp at x0 x2
    have hlP := HG.out.bx.lt
    have hlL := HG.out.lv.blk.lt
    obtain ⟨aq, cq, hvq, -⟩ := HG.out.lv.qu
    rw [hvq] at x2
    have HC : Hid (Calls Try.prog 86 #[.slice aq qs1.length cq, .func (.func 84) #[] #[.pointer (some ⟨P, 0, none⟩)], .func (.func 87) #[] #[]] wr fun e w' => e = .returned (.int .i64 (optI (nxt gs1 qs1))) ∧ Below wr.heap.size wr w') :=
      bestWt_c _ _ #[.pointer (some ⟨P, 0, none⟩)] qs1 (goB gs1) cmpW wr (by rw [← hvq]; exact HG.out.lv.qu) rfl
        (fun y hy W hW => could_c B L P now _ va1 vq1 vc1 gs1 qs1 _ y W (HG.out.lv.below hW) HG.out.sk ((hW.cell hlP).trans (HG.out.bx.cell 0)))
        (fun y hy z hz W hW => cmpWt_c y z W)
    obtain ⟨mq, hmq⟩ : ∃ mq, qs1.length = mq := ⟨_, rfl⟩
    have HMQ : Hid (qs1.length = mq) := hmq
    rw [hmq] at x2 HC
    clear hvq hmq
    go_wp2_with (fail)
    refine HC.out.mono ?_
    rintro e w2 ⟨rfl, b2⟩
    have HL2 : Hid (Gv B L P now g gs qs [] w w2 gs1 qs1 ds va1 vq1 vc1 f1) := ⟨HG.out.lv.below b2, HG.out.sk, HG.out.ca, HG.out.fr, HG.out.le, HG.out.gl, HG.out.ql, HG.out.eq, HG.out.bx.below b2 HG.out.bx.lt, HG.out.bel.trans (b2.mono (Nat.le_trans HG.out.lv.lb (Nat.le_of_lt hlL)))⟩
    have HQL : Hid (qLen L wr = qs1.length) := HG.out.lv.qLen
    cases hnx : nxt gs1 qs1 with
    | none =>
      have HF : Hid ((∃ va' vq' vc', Lv B w2 L now (g + R.2.2.length) va' vq' vc' R.1 R.2.1 R.2.2) ∧ Below B w w2) := by
        show (∃ va' vq' vc', Lv B w2 L now (g + R.2.2.length) va' vq' vc' R.1 R.2.1 R.2.2) ∧ Below B w w2
        have he := HL2.out.eq
        rw [HR.out, giveN_none (show giveOne now gs1 qs1 = none by simp [giveOne, hnx])] at he
        have hl := HL2.out.lv
        rw [he]
        refine ⟨⟨va1, vq1, vc1, ?_⟩, HL2.out.bel⟩
        simpa using hl
      simp only [optI]
      clear hnx b2 HC HG HL2 x0 x2
      go_wp2
      first
        | (go_end0; exact ⟨rfl, HF.out⟩)
        | (refine bodyPost_ret (results_none rfl _ _ _) rfl ?_; exact ⟨rfl, HF.out⟩)
    | some p =>
      obtain ⟨q, a, hq, ht⟩ := nxt_go hnx
      obtain ⟨x, hx, -⟩ := taker_fit ht
      have hp0 : ¬ (p : Int) < 0 := by omega
      have y0 := HL2.out.bx.cell 0
      simp at y0
      have HN : Hid (nxt gs1 qs1 = some p ∧ qs1[p]? = some q ∧ taker gs1 q.2.1 = some a ∧ gs1[a]? = some x) := ⟨hnx, hq, ht, hx⟩
      have hdl : ds.length ≤ 1048576 := by have := HL2.out.le; omega
      have hql : qs1.length ≤ 1048576 := by have := HL2.out.ql; omega
      have hgl : gs1.length ≤ 1048576 := by have := HL2.out.gl; omega
      simp only [optI]
      clear hnx hq ht hx b2 HC HG x0 x2
      go_wp2_with (fail)
      refine (give_c B L now (g + ds.length) va1 vq1 vc1 gs1 qs1 ([] ++ ds) p a q x w2 HL2.out.lv HL2.out.sk hql hgl (by simpa using hdl) (by omega) (by omega) HN.out.2.1 HN.out.2.2.1 HN.out.2.2.2).mono ?_
      rintro e w3 ⟨rfl, va', vq', vc', l3, b3, f3⟩
      obtain ⟨f2, hg2⟩ := HL2.out.next HN.out.1 HN.out.2.1 HN.out.2.2.1 HN.out.2.2.2 l3 b3 f3
      have HG2 : Hid (Gv B L P now g gs qs [] w w3 (gs1.set a (x.1, q.1, now)) (qs1.eraseIdx p) (ds ++ [q.1]) va' vq' vc' f2) := hg2
      have HM : Hid (qLen L w3 < qLen L wr) := by
        show qLen L w3 < qLen L wr
        have hpl := nxt_lt HN.out.1
        rw [HQL.out, hg2.lv.qLen, List.length_eraseIdx_of_lt hpl]; omega
      clear l3 b3 f3 hg2 y0
      go_wp2
      go_roundw
      case rel => exact ⟨_, _, _, _, _, _, _, HG2.out⟩
      case measure => exact HM.out
end Go.Proofs.Ytpmmgbinogokfaa
