/- the model's step of the desk; no condition. -/
import Derived.Test.YtpmmgbinogokfaaMG
import Derived.Test.YtpmmgbinogokfaaSrM
import Derived.Deep.DeepCutAuto
namespace Go.Proofs.Ytpmmgbinogokfaa
open Go.RowKit Go.ChangeShapes Go.WideShapes Go.ChangeAt
set_option linter.unusedVariables false
set_option linter.unusedSimpArgs false
set_option maxRecDepth 8000
/-- is an op right, its tick left out -/
def opK (gs : List Ag) (qs : List Wt) (k t a s p : Int) : Bool :=
  if k = 1 then wtB t (a, s, p, t) && (gs.findIdx? fun x => x.2.1 == a).isNone && (qs.findIdx? fun x => x.1 == a).isNone
    else if k = 2 ∨ k = 3 then decide (s = 0 ∧ p = 0) else if k = 4 then decide (0 ≤ s ∧ s ≤ 255) && decide (p = 0) else false
theorem opB_eq (n : Int) (gs : List Ag) (qs : List Wt) (k t a s p : Int) : opB n gs qs k t a s p = (tkB t && decide (n ≤ t) && opK gs qs k t a s p) := rfl
def LdR (X : Nat → Prop) (B : Nat) (n g : Int) (gs : List Ag) (qs : List Wt) (k t a s p : Int) (w : World) (e : Ending) (w' : World) : Prop :=
  ∃ va' vq' gs' qs' code, e = .returned (.tuple #[.agg (D4 n va' vq' g), .int .i64 code]) ∧ Og 3 agC 36 B w' va' gs' ∧ Og 4 wtC 74 B w' vq' qs' ∧ Fr X w w' ∧
    ((opK gs qs k t a s p = false ∧ code = 1) ∨ (opK gs qs k t a s p = true ∧ beg t gs qs k a s p = none ∧ code = 3) ∨ (opK gs qs k t a s p = true ∧ beg t gs qs k a s p = some (gs', qs') ∧ code = 0))
theorem Fr.grow {X : Nat → Prop} {w W W' : World} {row : Option Nat} (h : Fr X w W) (g : W.grownBy W' row) (hr : ∀ k, row = some k → X k ∨ w.heap.size ≤ k) : Fr X w W' := by
  have h2 : Fr (fun k => row = some k) W W' := Fr.ofGrown g fun _ e => e
  refine ⟨h2.os.trans h.os, h2.tape.trans h.tape, h2.output.trans h.output, Nat.le_trans h.size h2.size, fun k hk hx => ?_⟩
  rw [h2.block k (Nat.lt_of_lt_of_le hk h.size) (fun e => by rcases hr k e with h' | h'; exact hx h'; omega)]
  exact h.block k hk hx
/-- the end of l8Do: the desk is told -/
theorem ldFin {X : Nat → Prop} {B P : Nat} {W w : World} {n g : Int} {va vq vc : Value} {gs gs' : List Ag} {qs qs' : List Wt} {cs : List Int} {k t a s p code : Int} (h : Mb B W P n g va vq vc gs' qs' cs) (hr : Blk W (P + 2) (D4 0 (.slice none 0 0) (.slice none 0 0) 0) 27) (hB : B ≤ P) (hP : w.heap.size = P) (hb : Fr X w W)
    (hc : (opK gs qs k t a s p = false ∧ code = 1) ∨ (opK gs qs k t a s p = true ∧ beg t gs qs k a s p = none ∧ code = 3) ∨ (opK gs qs k t a s p = true ∧ beg t gs qs k a s p = some (gs', qs') ∧ code = 0)) :
    Blk ((((W.setCell ⟨P + 2, 0, none⟩ (.int .i64 n)).setCell ⟨P + 2, 1, none⟩ va).setCell ⟨P + 2, 2, none⟩ vq).setCell ⟨P + 2, 3, none⟩ (.int .i64 g)) (P + 2) (D4 n va vq g) 27 ∧
    LdR X B n g gs qs k t a s p w (.returned (.tuple #[.agg (D4 n va vq g), .int .i64 code])) ((((W.setCell ⟨P + 2, 0, none⟩ (.int .i64 n)).setCell ⟨P + 2, 1, none⟩ va).setCell ⟨P + 2, 2, none⟩ vq).setCell ⟨P + 2, 3, none⟩ (.int .i64 g)) := by
  have gf : W.grownBy ((((W.setCell ⟨P + 2, 0, none⟩ (.int .i64 n)).setCell ⟨P + 2, 1, none⟩ va).setCell ⟨P + 2, 2, none⟩ vq).setCell ⟨P + 2, 3, none⟩ (.int .i64 g)) (some (P + 2)) := grown_trans (grown_trans (grown_trans (grown_set' _ _ _ _) (grown_set' _ _ _ _)) (grown_set' _ _ _ _)) (grown_set' _ _ _ _)
  refine ⟨(((hr.set 0 _).set 1 _).set 2 _).set 3 _, va, vq, gs', qs', code, rfl, ?_, ?_, ?_, hc⟩
  · exact World.ownsRow.kept h.ag gf (.inr (row_blk h.ag hr (by decide)))
  · exact World.ownsRow.kept h.qu gf (.inr (row_blk h.qu hr (by decide)))
  · exact hb.grow gf (fun k e => .inr (by cases e; omega))
set_option maxHeartbeats 12800000 in
theorem ldM_c (B : Nat) (n g : Int) (va vq : Value) (gs : List Ag) (qs : List Wt) (k t a s p : Int) (w : World) (ha : Og 3 agC 36 B w va gs) (hq : Og 4 wtC 74 B w vq qs) (hB : B ≤ w.heap.size) (hd : DkOk n g gs qs) (ht : tkB t = true) (X : Nat → Prop) (hXa : ∀ k, va.ownBlock = some k → X k) (hXq : ∀ k, vq.ownBlock = some k → X k) :
   Calls Try.prog 52 #[.agg (D4 n va vq g), .agg #[.int .i64 k, .int .i64 t, .int .i64 a, .int .i64 s, .int .i64 p]] w (LdR X B n g gs qs k t a s p w) := by
  obtain ⟨W0, hW0⟩ : ∃ W0, ((w.alloc (Obj.cells (D4 n va vq g) 27)).alloc (Obj.cells #[.int .i64 k, .int .i64 t, .int .i64 a, .int .i64 s, .int .i64 p] 38)).alloc (Obj.cells (D4 0 (.slice none 0 0) (.slice none 0 0) 0) 27) = W0 := ⟨_, rfl⟩
  have b0 : Below w.heap.size w W0 := hW0 ▸ (((Below.refl _ _).alloc (Nat.le_refl _) _).alloc (by simp) _).alloc (by simp; omega) _
  have hs0 : W0.heap.size = w.heap.size + 3 := by rw [← hW0]; simp
  have k0 : Blk W0 w.heap.size (D4 n va vq g) 27 := hW0 ▸ ((Blk.new _ _ _).alloc _).alloc _
  have k1 : Blk W0 (w.heap.size + 1) #[.int .i64 k, .int .i64 t, .int .i64 a, .int .i64 s, .int .i64 p] 38 := hW0 ▸ (Blk.newAt _ (w.heap.size + 1) _ 38 (by simp)).alloc _
  have k2 : Blk W0 (w.heap.size + 2) (D4 0 (.slice none 0 0) (.slice none 0 0) 0) 27 := hW0 ▸ Blk.newAt _ (w.heap.size + 2) _ 27 (by simp)
  obtain ⟨P, hP⟩ : ∃ P, w.heap.size = P := ⟨_, rfl⟩
  rw [hP] at k0 k1 k2 hs0 hB
  have M0 : Hid (Mb B W0 P n g va vq (.slice none 0 0) gs qs []) := ⟨k0, ha.below b0, hq.below b0, Ow.nil _ _ _ _⟩
  have R0 : Hid (Blk W0 (P + 2) (D4 0 (.slice none 0 0) (.slice none 0 0) 0) 27) := k2
  have K0 : Hid (Blk W0 (P + 1) #[.int .i64 k, .int .i64 t, .int .i64 a, .int .i64 s, .int .i64 p] 38) := k1
  have BB0 : Hid (Fr X w W0) := Fr.ofBelow b0
  have HXA : Hid (∀ k, va.ownBlock = some k → X k) := hXa
  have HXQ : Hid (∀ k, vq.ownBlock = some k → X k) := hXq
  clear hXa hXq
  have HD : Hid (DkOk n g gs qs) := hd
  have HT : Hid (tkB t = true) := ht
  have HPP : Hid (w.heap.size = P) := hP
  obtain ⟨ag, cg, hva⟩ := ha.form
  obtain ⟨aq, cq, hvq⟩ := hq.form
  obtain ⟨mg, hmg⟩ : ∃ mg, gs.length = mg := ⟨_, rfl⟩
  obtain ⟨mq, hmq⟩ : ∃ mq, qs.length = mq := ⟨_, rfl⟩
  have HMM : Hid (gs.length = mg ∧ qs.length = mq) := ⟨hmg, hmq⟩
  have hmg12 : 1 ≤ mg ∧ mg ≤ 12 := by have := hd.1; omega
  have hmq40 : mq ≤ 40 := by have := hd.2.1; omega
  rw [hmg] at hva
  rw [hmq] at hvq
  subst hva hvq
  have x0 := k0.cell 0
  have x1 := k0.cell 1
  have x2 := k0.cell 2
  have x3 := k0.cell 3
  have y0 := k1.cell 0
  have y1 := k1.cell 1
  have y2 := k1.cell 2
  have y3 := k1.cell 3
  have y4 := k1.cell 4
  have e0 := k2.cell 0
  have e1 := k2.cell 1
  have e2 := k2.cell 2
  have e3 := k2.cell 3
  have f0 := k2.frozen 0
  have f1 := k2.frozen 1
  have f2 := k2.frozen 2
  have f3 := k2.frozen 3
  simp at x0 x1 x2 x3 y0 y1 y2 y3 y4 e0 e1 e2 e3
  have HW0 : Hid (((w.alloc (Obj.cells (D4 n (.slice ag mg cg) (.slice aq mq cq) g) 27)).alloc (Obj.cells #[.int .i64 k, .int .i64 t, .int .i64 a, .int .i64 s, .int .i64 p] 38)).alloc (Obj.cells (D4 0 (.slice none 0 0) (.slice none 0 0) 0) 27) = W0) := hW0
  have HSV : Hid (∀ W, Below W0.heap.size W0 W → Calls Try.prog 33 #[.agg (D4 n (.slice ag mg cg) (.slice aq mq cq) g), .int .i64 a] W fun e w' => e = .returned (.tuple #[.int .i64 (servF n g gs qs a).1, .int .i64 (servF n g gs qs a).2]) ∧ Below W.heap.size W w') := fun W hW =>
    servedM_c n g _ _ gs qs a W ((M0.out.below hW).ag.rd agC_len) ((M0.out.below hW).qu.rd wtC_len)
  -- a way out that changes nothing
  have HOUT : Hid (∀ code, ((opK gs qs k t a s p = false ∧ code = 1) ∨ (opK gs qs k t a s p = true ∧ beg t gs qs k a s p = none ∧ code = 3)) → ∀ W, Below W0.heap.size W0 W → Blk ((((W.setCell ⟨P + 2, 0, none⟩ (.int .i64 n)).setCell ⟨P + 2, 1, none⟩ (.slice ag mg cg)).setCell ⟨P + 2, 2, none⟩ (.slice aq mq cq)).setCell ⟨P + 2, 3, none⟩ (.int .i64 g)) (P + 2) (D4 n (.slice ag mg cg) (.slice aq mq cq) g) 27 ∧
      LdR X B n g gs qs k t a s p w (.returned (.tuple #[.agg (D4 n (.slice ag mg cg) (.slice aq mq cq) g), .int .i64 code])) ((((W.setCell ⟨P + 2, 0, none⟩ (.int .i64 n)).setCell ⟨P + 2, 1, none⟩ (.slice ag mg cg)).setCell ⟨P + 2, 2, none⟩ (.slice aq mq cq)).setCell ⟨P + 2, 3, none⟩ (.int .i64 g))) := fun code hcode W hW =>
    ldFin (M0.out.below hW) (R0.out.below hW R0.out.lt) hB HPP.out (BB0.out.trans (Fr.ofBelow hW)) (by rcases hcode with h | h; exact .inl h; exact .inr (.inl h))
  clear hW0 b0 k0 k1 k2 ha hq hd ht hP hmg hmq
  have hP0 : P + 3 ≤ W0.heap.size := by omega
  go_enter Try.func52, Try.ntmps52
  go_upto_region 1 with fail
  rw [HW0.out, HPP.out]
  clear HW0 hs0
  by_cases hk1 : k = 1
  · subst hk1
    obtain ⟨q1, hq1⟩ : ∃ q, tkB a = q := ⟨_, rfl⟩
    obtain ⟨q2, hq2⟩ : ∃ q, skB s = q := ⟨_, rfl⟩
    obtain ⟨q3, hq3⟩ : ∃ q, decide (0 ≤ p ∧ p ≤ 9) = q := ⟨_, rfl⟩
    have HQ1 : Hid (tkB a = q1) := hq1
    have HQ2 : Hid (skB s = q2) := hq2
    have HQ3 : Hid (decide (0 ≤ p ∧ p ≤ 9) = q3) := hq3
    have HWT : Hid (wtB t (a, s, p, t) = (q1 && q2 && q3)) := by
      show wtB t (a, s, p, t) = _
      have h0 := HT.out
      simp [tkB] at h0
      rw [wtB, hq1, hq2, hq3, decide_eq_true (show 0 ≤ t ∧ t ≤ t by omega)]; simp
    clear hq1 hq2 hq3
    by_cases hok : q1 && q2 && q3
    case neg =>
      have HK1 : Hid (opK gs qs 1 t a s p = false) := by
        show opK gs qs 1 t a s p = false
        rw [opK, if_pos rfl, HWT.out]; simp [hok]
      obtain ⟨h1, h2⟩ := HOUT.out 1 (.inl ⟨HK1.out, rfl⟩) W0 (Below.refl _ _)
      have H1 : Hid _ := h1
      have H2 : Hid _ := h2
      clear h1 h2 HOUT

      cases q1 with
      | false =>
        go_wp2_with (first | (go_at_call 40; refine (tickM_c _ _).mono ?_; rintro e w9 ⟨rfl, hw9⟩; rw [hw9, HQ1.out]; clear hw9 w9))
        exact bodyPost_ret (v := .tuple #[.agg (D4 n (.slice ag mg cg) (.slice aq mq cq) g), .int .i64 1]) (results_D2 rfl _ _ _ _ _ _ _ _ rfl rfl H1.out) rfl H2.out

      | true =>
      cases q2 with
      | false =>
        go_wp2_with (first | (go_at_call 40; refine (tickM_c _ _).mono ?_; rintro e w9 ⟨rfl, hw9⟩; rw [hw9, HQ1.out]; clear hw9 w9) | (go_at_call 42; refine (skillM_c _ _).mono ?_; rintro e w9 ⟨rfl, hw9⟩; rw [hw9, HQ2.out]; clear hw9 w9))
        exact bodyPost_ret (v := .tuple #[.agg (D4 n (.slice ag mg cg) (.slice aq mq cq) g), .int .i64 1]) (results_D2 rfl _ _ _ _ _ _ _ _ rfl rfl H1.out) rfl H2.out

      | true =>
      cases q3 with
      | false =>
        go_wp2_with (first | (go_at_call 40; refine (tickM_c _ _).mono ?_; rintro e w9 ⟨rfl, hw9⟩; rw [hw9, HQ1.out]; clear hw9 w9) | (go_at_call 42; refine (skillM_c _ _).mono ?_; rintro e w9 ⟨rfl, hw9⟩; rw [hw9, HQ2.out]; clear hw9 w9) | (go_at_call 41; refine (in_c _ _ _ _).mono ?_; rintro e w9 ⟨rfl, hw9⟩; rw [hw9, HQ3.out]; clear hw9 w9))
        exact bodyPost_ret (v := .tuple #[.agg (D4 n (.slice ag mg cg) (.slice aq mq cq) g), .int .i64 1]) (results_D2 rfl _ _ _ _ _ _ _ _ rfl rfl H1.out) rfl H2.out

      | true => exact absurd rfl hok
    case pos =>
    simp only [Bool.and_eq_true] at hok
    obtain ⟨⟨rfl, rfl⟩, rfl⟩ := hok
    have hSF : servF n g gs qs a = servB gs qs a := by
      rw [servF, if_pos ⟨HD.out, by have := HQ1.out; simp [tkB] at this; omega⟩]
    have HOK : Hid (opK gs qs 1 t a s p = ((gs.findIdx? fun x => x.2.1 == a).isNone && (qs.findIdx? fun x => x.1 == a).isNone)) := by
      show opK gs qs 1 t a s p = _
      rw [opK, if_pos rfl, HWT.out]; simp
    obtain ⟨s1, s2, hss⟩ : ∃ s1 s2, servB gs qs a = (s1, s2) := ⟨_, _, rfl⟩
    have HSS : Hid (servB gs qs a = (s1, s2)) := hss
    rw [hSF, hss] at HSV
    clear hSF hss
    go_wp2_with (first | (go_at_call 40; refine (tickM_c _ _).mono ?_; rintro e w9 ⟨rfl, hw9⟩; rw [hw9, HQ1.out]; clear hw9 w9) | (go_at_call 42; refine (skillM_c _ _).mono ?_; rintro e w9 ⟨rfl, hw9⟩; rw [hw9, HQ2.out]; clear hw9 w9) | (go_at_call 41; refine (in_c _ _ _ _).mono ?_; rintro e w9 ⟨rfl, hw9⟩; rw [hw9, HQ3.out]; clear hw9 w9))
    refine (HSV.out W0 (Below.refl _ _)).mono ?_
    rintro e w1 ⟨rfl, b1⟩
    have M1 : Hid (Mb B w1 P n g (.slice ag mg cg) (.slice aq mq cq) (.slice none 0 0) gs qs []) := M0.out.below b1
    have R1 : Hid (Blk w1 (P + 2) (D4 0 (.slice none 0 0) (.slice none 0 0) 0) 27) := R0.out.below b1 R0.out.lt
    have K1 : Hid (Blk w1 (P + 1) #[.int .i64 1, .int .i64 t, .int .i64 a, .int .i64 s, .int .i64 p] 38) := K0.out.below b1 K0.out.lt
    have BB1 : Hid (Fr X w w1) := BB0.out.trans (Fr.ofBelow b1)
    have hP1 : P + 3 ≤ w1.heap.size := Nat.le_trans hP0 b1.size
    have HB1 : Hid (Below W0.heap.size W0 w1) := b1
    clear x0 x1 x2 x3 y0 y1 y2 y3 y4 e0 e1 e2 e3 f0 f1 f2 f3 b1
    have x0 := M1.out.blk.cell 0
    have x1 := M1.out.blk.cell 1
    have x2 := M1.out.blk.cell 2
    have x3 := M1.out.blk.cell 3
    have xf2 := M1.out.blk.frozen 2
    have y0 := K1.out.cell 0
    have y1 := K1.out.cell 1
    have y2 := K1.out.cell 2
    have y3 := K1.out.cell 3
    have y4 := K1.out.cell 4
    have e0 := R1.out.cell 0
    have e1 := R1.out.cell 1
    have e2 := R1.out.cell 2
    have e3 := R1.out.cell 3
    have f0 := R1.out.frozen 0
    have f1 := R1.out.frozen 1
    have f2 := R1.out.frozen 2
    have f3 := R1.out.frozen 3
    simp at x0 x1 x2 x3 y0 y1 y2 y3 y4 e0 e1 e2 e3
    by_cases hfree : (gs.findIdx? fun x => x.2.1 == a) = none ∧ (qs.findIdx? fun x => x.1 == a) = none
    case neg =>
      have HK1 : Hid (opK gs qs 1 t a s p = false) := by
        show opK gs qs 1 t a s p = false
        rw [HOK.out]
        cases h1 : (gs.findIdx? fun x => x.2.1 == a) with
        | some i => simp
        | none =>
          cases h2 : (qs.findIdx? fun x => x.1 == a) with
          | some i => simp
          | none => exact absurd ⟨h1, h2⟩ hfree
      have hs1 : s1 < 2 := by
        have h := HSS.out
        unfold servB at h
        split at h
        · cases h; decide
        · split at h
          · cases h; decide
          · rename_i h1 _ h2; exact absurd ⟨h1, h2⟩ hfree
      obtain ⟨h1, h2⟩ := HOUT.out 1 (.inl ⟨HK1.out, rfl⟩) w1 HB1.out
      have H1 : Hid _ := h1
      have H2 : Hid _ := h2
      clear h1 h2 HOUT

      clear hfree xf2
      go_wp2
      exact bodyPost_ret (v := .tuple #[.agg (D4 n (.slice ag mg cg) (.slice aq mq cq) g), .int .i64 1]) (results_D2 rfl _ _ _ _ _ _ _ _ rfl rfl H1.out) rfl H2.out

    case pos =>
    have hs1 : ¬ s1 < 2 := by
      have h := HSS.out
      simp only [servB, hfree.1, hfree.2] at h
      cases h; decide
    have HC : Hid (opK gs qs 1 t a s p = true ∧ beg t gs qs 1 a s p = some (gs, qs ++ [(a, s, p, t)])) := by
      refine ⟨?_, by simp [beg]⟩
      rw [HOK.out, hfree.1, hfree.2]; rfl
    obtain ⟨W2, hW2⟩ : ∃ W2, w1.alloc (Obj.cells #[.int .i64 a, .int .i64 s, .int .i64 p, .int .i64 t] 74) = W2 := ⟨_, rfl⟩
    have b2 : Below w1.heap.size w1 W2 := hW2 ▸ (Below.refl _ _).alloc (Nat.le_refl _) _
    have M2 : Hid (Mb B W2 P n g (.slice ag mg cg) (.slice aq mq cq) (.slice none 0 0) gs qs []) := M1.out.below b2
    have R2 : Hid (Blk W2 (P + 2) (D4 0 (.slice none 0 0) (.slice none 0 0) 0) 27) := R1.out.below b2 R1.out.lt
    have BB2 : Hid (Fr X w W2) := BB1.out.trans (Fr.ofBelow b2)
    have X2 : Hid (Rg 4 wtC W2 (.slice (some ⟨w1.heap.size, 0, none⟩) 1 1) [(a, s, p, t)]) := by
      refine ⟨_, 1, rfl, by simp, by simp [maxLen], .inr ⟨w1.heap.size, 0, rfl, fun i hi => ?_⟩⟩
      obtain rfl : i = 0 := by simpa using hi
      have kk : Blk W2 w1.heap.size #[.int .i64 a, .int .i64 s, .int .i64 p, .int .i64 t] 74 := hW2 ▸ Blk.new _ _ _
      intro j u hu
      have := kk.cell j
      simp only [Nat.zero_mul, Nat.zero_add, List.getElem_cons_zero] at hu ⊢
      rw [this]; simpa using hu
    have HW2 : Hid (w1.alloc (Obj.cells #[.int .i64 a, .int .i64 s, .int .i64 p, .int .i64 t] 74) = W2) := hW2
    have hB2 : B ≤ W2.heap.size := by have := b2.size; omega
    clear b2 hW2 hfree HOUT
    go_wp2_with (at_builtin; rw [HW2.out]; refine appWt rfl _ _ rfl B _ qs rfl M2.out.qu _ [(a, s, p, t)] rfl X2.out (by simp; have := HMM.out.2; omega) hB2 ?_)
    intro v3 w3 o3 g3 _
    have M3 := M2.out.setQueue (vq' := v3) (qs' := qs ++ [(a, s, p, t)]) g3 o3
    have hr3 : Blk w3 (P + 2) (D4 0 (.slice none 0 0) (.slice none 0 0) 0) 27 := by rw [Blk, g3.block _ R2.out.lt (Ne.symm (row_blk M2.out.qu R2.out (by decide)))]; exact R2.out
    have hp3 : Blk w3 P (D4 n (.slice ag mg cg) (.slice aq mq cq) g) 27 := by rw [Blk, g3.block _ M2.out.blk.lt (Ne.symm (row_blk M2.out.qu M2.out.blk (by decide)))]; exact M2.out.blk
    have hr4 : Blk (w3.setCell ⟨P, 2, none⟩ v3) (P + 2) (D4 0 (.slice none 0 0) (.slice none 0 0) 0) 27 := hr3.other _ _ (by simp)
    have BB3 : Fr X w w3 := BB2.out.grow g3 (fun k e => .inl (HXQ.out k e))
    obtain ⟨h1, h2⟩ := ldFin (code := 0) M3 hr4 hB HPP.out (BB3.grow (grown_set' _ _ _ _) (fun k e => .inr (by cases e; exact Nat.le_of_eq HPP.out))) (.inr (.inr ⟨HC.out.1, HC.out.2, rfl⟩))
    obtain ⟨a3, c3, hv3⟩ := o3.form
    rw [show (qs ++ [(a, s, p, t)]).length = qs.length + 1 by simp] at hv3
    subst hv3
    have H1 : Hid _ := h1
    have H2 : Hid _ := h2
    have p0 := hp3.cell 0
    have p1 := hp3.cell 1
    have p2 := hp3.cell 2
    have p3 := hp3.cell 3
    have pf2 := hp3.frozen 2
    have g0' := hr3.cell 0
    have g1' := hr3.cell 1
    have g2' := hr3.cell 2
    have g3' := hr3.cell 3
    have gf0 := hr3.frozen 0
    have gf1 := hr3.frozen 1
    have gf2 := hr3.frozen 2
    have gf3 := hr3.frozen 3
    simp at p0 p1 p2 p3 g0' g1' g2' g3'
    have hl3 := hr3.lt
    have hl3' := hp3.lt
    clear h1 h2 M3 hr3 hp3 hr4 BB3 o3 g3 x0 x1 x2 x3 xf2 y0 y1 y2 y3 y4 e0 e1 e2 e3 f0 f1 f2 f3 M2 R2 X2 BB2 M1 R1 K1 BB1
    go_wp2
    exact bodyPost_ret (v := .tuple #[.agg (D4 n (.slice ag mg cg) (.slice a3 (qs.length + 1) c3) g), .int .i64 0]) (results_D2 rfl _ _ _ _ _ _ _ _ rfl rfl H1.out) rfl H2.out
  have n1 : (k == 1) = false := by simp [hk1]
  by_cases hk2 : k = 2
  · subst hk2
    by_cases hsp : s = 0 ∧ p = 0
    case neg =>
      have HK1 : Hid (opK gs qs 2 t a s p = false) := by
        show opK gs qs 2 t a s p = false
        simp only [opK]; simp [hsp]
      obtain ⟨h1, h2⟩ := HOUT.out 1 (.inl ⟨HK1.out, rfl⟩) W0 (Below.refl _ _)
      have H1 : Hid _ := h1
      have H2 : Hid _ := h2
      clear h1 h2 HOUT

      by_cases hs : s = 0
      · have hp : ¬ p = 0 := fun h => hsp ⟨hs, h⟩
        have hp' : (p != 0) = true := by simp [hp]
        have hs' : (s != 0) = false := by simp [hs]
        clear hsp hs hp
        go_wp2
        exact bodyPost_ret (v := .tuple #[.agg (D4 n (.slice ag mg cg) (.slice aq mq cq) g), .int .i64 1]) (results_D2 rfl _ _ _ _ _ _ _ _ rfl rfl H1.out) rfl H2.out

      · have hs' : (s != 0) = true := by simp [hs]
        clear hsp hs
        go_wp2
        exact bodyPost_ret (v := .tuple #[.agg (D4 n (.slice ag mg cg) (.slice aq mq cq) g), .int .i64 1]) (results_D2 rfl _ _ _ _ _ _ _ _ rfl rfl H1.out) rfl H2.out

    case pos =>
    obtain ⟨rfl, rfl⟩ := hsp
    have HOK : Hid (opK gs qs 2 t a 0 0 = true) := by show opK gs qs 2 t a 0 0 = true; simp [opK]
    obtain ⟨s1, s2, hss⟩ : ∃ s1 s2, servF n g gs qs a = (s1, s2) := ⟨_, _, rfl⟩
    have HSS : Hid (servF n g gs qs a = (s1, s2)) := hss
    rw [hss] at HSV
    clear hss
    go_wp2_with (fail)
    refine (HSV.out W0 (Below.refl _ _)).mono ?_
    rintro e w1 ⟨rfl, b1⟩
    have s := (0 : Int)
    have p := (0 : Int)
    have M1 : Hid (Mb B w1 P n g (.slice ag mg cg) (.slice aq mq cq) (.slice none 0 0) gs qs []) := M0.out.below b1
    have R1 : Hid (Blk w1 (P + 2) (D4 0 (.slice none 0 0) (.slice none 0 0) 0) 27) := R0.out.below b1 R0.out.lt
    have K1 : Hid (Blk w1 (P + 1) #[.int .i64 2, .int .i64 t, .int .i64 a, .int .i64 0, .int .i64 0] 38) := K0.out.below b1 K0.out.lt
    have BB1 : Hid (Fr X w w1) := BB0.out.trans (Fr.ofBelow b1)
    have hP1 : P + 3 ≤ w1.heap.size := Nat.le_trans hP0 b1.size
    have HB1 : Hid (Below W0.heap.size W0 w1) := b1
    clear x0 x1 x2 x3 y0 y1 y2 y3 y4 e0 e1 e2 e3 f0 f1 f2 f3 b1
    have x0 := M1.out.blk.cell 0
    have x1 := M1.out.blk.cell 1
    have x2 := M1.out.blk.cell 2
    have x3 := M1.out.blk.cell 3
    have y0 := K1.out.cell 0
    have y1 := K1.out.cell 1
    have y2 := K1.out.cell 2
    have y3 := K1.out.cell 3
    have y4 := K1.out.cell 4
    have e0 := R1.out.cell 0
    have e1 := R1.out.cell 1
    have e2 := R1.out.cell 2
    have e3 := R1.out.cell 3
    have f0 := R1.out.frozen 0
    have f1 := R1.out.frozen 1
    have f2 := R1.out.frozen 2
    have f3 := R1.out.frozen 3
    simp at x0 x1 x2 x3 y0 y1 y2 y3 y4 e0 e1 e2 e3

    clear s p
    cases hf : (qs.findIdx? fun x => x.1 == a) with
    | none =>
      have HBN : Hid (beg t gs qs 2 a 0 0 = none) := by show beg t gs qs 2 a 0 0 = none; simp [beg, hf]
      have hs1 : s1 ≠ 1 := by
        have h := HSS.out
        unfold servF at h
        split at h
        · unfold servB at h
          split at h
          · cases h; decide
          · simp only [hf] at h
            cases h; decide
        · cases h; decide
      have hs1' : (s1 != 1) = true := by simp [hs1]
      obtain ⟨h1, h2⟩ := HOUT.out 3 (.inr ⟨HOK.out, HBN.out, rfl⟩) w1 HB1.out
      have H1 : Hid _ := h1
      have H2 : Hid _ := h2
      clear h1 h2 HOUT

      clear hf hs1
      go_wp2
      exact bodyPost_ret (v := .tuple #[.agg (D4 n (.slice ag mg cg) (.slice aq mq cq) g), .int .i64 3]) (results_D2 rfl _ _ _ _ _ _ _ _ rfl rfl H1.out) rfl H2.out

    | some i =>
      have HBN : Hid (beg t gs qs 2 a 0 0 = some (gs, qs.eraseIdx i)) := by show beg t gs qs 2 a 0 0 = _; simp [beg, hf]
      obtain ⟨hil, hia, -⟩ := List.findIdx?_eq_some_iff_getElem.1 hf
      have hs12 : s1 = 1 ∧ s2 = i := by
        have hq := (qs_iff n gs qs).1 HD.out.2.2.2.2.2
        have hia' : qs[i].1 = a := by simpa using hia
        have ha0 : 0 ≤ a := by rw [← hia']; exact HD.out.ca _ (List.getElem_mem hil)
        have hgn : (gs.findIdx? fun x => x.2.1 == a) = none := (fa_none gs _).2 fun x hx => by
          have := hq.2.2 x hx _ (List.getElem_mem hil)
          rw [hia'] at this; simpa using this
        have h := HSS.out
        rw [servF, if_pos ⟨HD.out, ha0⟩] at h
        simp only [servB, hgn, hf] at h
        cases h; exact ⟨rfl, rfl⟩
      obtain ⟨rfl, rfl⟩ := hs12
      have him : i < mq := by have := HMM.out.2; omega
      obtain ⟨b, cq', hqb, hbP, hBb, hbw, hcq1, hcq2⟩ := M1.out.qub hil
      have haq : aq = some ⟨b, 0, none⟩ := by simp at hqb; exact hqb.1
      subst haq
      have hcqm : mq ≤ cq := by have := HMM.out.2; simp at hqb; omega
      have hcq3 : cq ≤ 2 ^ 63 - 1 := by simp at hqb; unfold maxLen at hcq2; omega
      obtain ⟨S, hS⟩ : ∃ S : World → Prop, ∀ W, S W ↔ Blk W P (D4 n (.slice ag mg cg) (.slice (some ⟨b, 0, none⟩) mq cq) g) 27 := ⟨_, fun _ => Iff.rfl⟩
      have u2 : ∀ W : At S, W.wd.cell? ⟨P, 2, none⟩ = some (.slice (some ⟨b, 0, none⟩) mq cq) := fun W => Blk.cell ((hS _).1 W.ok) 2
      have ne : Nonempty (At S) := ⟨⟨w1, (hS _).2 M1.out.blk⟩⟩
      have HS : Hid (∀ W, S W ↔ Blk W P (D4 n (.slice ag mg cg) (.slice (some ⟨b, 0, none⟩) mq cq) g) 27) := hS
      have hm0 : (0 : Int) ≤ (i : Int) := by omega
      have hm1 : (i : Int) ≤ (cq : Int) := by omega
      have hm2 : (i : Int) ≤ (mq : Int) := by omega
      have hm3 : (i : Int) + 1 ≤ (mq : Int) := by omega
      have hm4 : (mq : Int) ≤ (cq : Int) := by omega
      have OQ : Hid (Og 4 wtC 74 B w1.drew (.slice (some ⟨b, 0, none⟩) mq cq) qs) := M1.out.drew.qu
      have hBw4 : B ≤ w1.heap.size := by omega
      clear hS hqb hf hia hcq1 hcq2
      go_wp2_with (fail)
      refine region_mixA [true, true, true, true, true, true, true, true, true, false, false, false] 10 1 S (by kernel_rfl) rfl (by kernel_rfl) (fun _ _ _ _ _ h => h) ((HS.out _).2 M1.out.blk.drew) ?_
      simp only [selT, selF]
      repeat (go_big_quiet_step (fail))
      refine wpQuiet_nil ?_
      refine tail_step ?_
      clear u2 ne
      try simp only [Nat.zero_add]
      obtain ⟨ad, had⟩ : ∃ ad, (if cq = i + 1 then some (⟨b, 0, none⟩ : Addr) else some ⟨b, (i + 1) * 4, none⟩) = ad := ⟨_, rfl⟩
      rw [had]
      refine cutWt rfl _ _ rfl B b mq cq i qs OQ.out HMM.out.2 him (by omega) rfl ad had rfl hBw4 ?_
      clear had
      intro v5 w5 o5 g5
      have g5' : w1.grownBy w5 (some b) := ⟨g5.os, g5.tape, g5.output, g5.size, g5.block⟩
      have M5 := M1.out.setQueue (vq' := v5) (qs' := qs.eraseIdx i) g5' o5
      have hp3 : Blk w5 P (D4 n (.slice ag mg cg) (.slice (some ⟨b, 0, none⟩) mq cq) g) 27 := by rw [Blk, g5'.block P M1.out.blk.lt (by simp; exact Ne.symm hbP)]; exact M1.out.blk
      have S5 : Hid (S w5) := (HS.out _).2 hp3
      have hbP1 : b ≠ P + 2 := by
        have := row_blk M1.out.qu R1.out (by decide)
        intro e; exact this (by simp [Value.ownBlock, e])
      have hr3 : Blk w5 (P + 2) (D4 0 (.slice none 0 0) (.slice none 0 0) 0) 27 := by rw [Blk, g5'.block _ R1.out.lt (by simp; exact Ne.symm hbP1)]; exact R1.out
      have BB5 : Fr X w w5 := BB1.out.grow g5' (fun k e => .inl (HXQ.out k (by cases e; simp [Value.ownBlock])))
      obtain ⟨h1, h2⟩ := ldFin (code := 0) M5 (hr3.other _ _ (by simp)) hB HPP.out (BB5.grow (grown_set' _ _ _ _) (fun k e => .inr (by cases e; exact Nat.le_of_eq HPP.out))) (.inr (.inr ⟨HOK.out, HBN.out, rfl⟩))
      obtain ⟨a5, c5, hv5⟩ := o5.form
      obtain ⟨m5, hm5⟩ : ∃ m5, (qs.eraseIdx i).length = m5 := ⟨_, rfl⟩
      rw [hm5] at hv5
      subst hv5
      have H1 : Hid _ := h1
      have H2 : Hid _ := h2
      have p0 := hp3.cell 0
      have p1 := hp3.cell 1
      have p2 := hp3.cell 2
      have p3 := hp3.cell 3
      have pf2 := hp3.frozen 2
      have g0' := hr3.cell 0
      have g1' := hr3.cell 1
      have g2' := hr3.cell 2
      have g3' := hr3.cell 3
      have gf0 := hr3.frozen 0
      have gf1 := hr3.frozen 1
      have gf2 := hr3.frozen 2
      have gf3 := hr3.frozen 3
      simp at p0 p1 p2 p3 g0' g1' g2' g3'
      have hl3 := hr3.lt
      have hl3' := hp3.lt
      clear h1 h2 M5 hr3 hp3 BB5 o5 g5 g5' x0 x1 x2 x3 y0 y1 y2 y3 y4 e0 e1 e2 e3 f0 f1 f2 f3 OQ M1 R1 K1 BB1 hm5 HOUT
      go_wp2
      refine ⟨S5.out, tail_end ?_⟩
      clear S5
      go_wp2
      exact bodyPost_ret (v := .tuple #[.agg (D4 n (.slice ag mg cg) (.slice a5 m5 c5) g), .int .i64 0]) (results_D2 rfl _ _ _ _ _ _ _ _ rfl rfl H1.out) rfl H2.out
  have n2 : (k == 2) = false := by simp [hk2]
  by_cases hk34 : k = 3 ∨ k = 4
  case neg =>
    have hk3 : ¬ k = 3 := fun h => hk34 (.inl h)
    have hk4 : ¬ k = 4 := fun h => hk34 (.inr h)
    have HK1 : Hid (opK gs qs k t a s p = false) := by
      show opK gs qs k t a s p = false
      rw [opK, if_neg hk1, if_neg (by omega), if_neg hk4]
    obtain ⟨h1, h2⟩ := HOUT.out 1 (.inl ⟨HK1.out, rfl⟩) W0 (Below.refl _ _)
    have H1 : Hid _ := h1
    have H2 : Hid _ := h2
    clear h1 h2 HOUT

    clear hk34
    go_wp2
    exact bodyPost_ret (v := .tuple #[.agg (D4 n (.slice ag mg cg) (.slice aq mq cq) g), .int .i64 1]) (results_D2 rfl _ _ _ _ _ _ _ _ rfl rfl H1.out) rfl H2.out

  case pos =>
  have hmi : (0 : Int) ≤ (mg : Int) := by omega
  rcases hk34 with rfl | rfl
  · by_cases hsp : s = 0 ∧ p = 0
    case neg =>
      have HK1 : Hid (opK gs qs 3 t a s p = false) := by
        show opK gs qs 3 t a s p = false
        simp only [opK]; simp [hsp]
      obtain ⟨h1, h2⟩ := HOUT.out 1 (.inl ⟨HK1.out, rfl⟩) W0 (Below.refl _ _)
      have H1 : Hid _ := h1
      have H2 : Hid _ := h2
      clear h1 h2 HOUT

      by_cases hs : s = 0
      · have hp : ¬ p = 0 := fun h => hsp ⟨hs, h⟩
        have hp' : (p != 0) = true := by simp [hp]
        have hs' : (s != 0) = false := by simp [hs]
        clear hsp hs hp
        go_wp2
        exact bodyPost_ret (v := .tuple #[.agg (D4 n (.slice ag mg cg) (.slice aq mq cq) g), .int .i64 1]) (results_D2 rfl _ _ _ _ _ _ _ _ rfl rfl H1.out) rfl H2.out

      · have hs' : (s != 0) = true := by simp [hs]
        clear hsp hs
        go_wp2
        exact bodyPost_ret (v := .tuple #[.agg (D4 n (.slice ag mg cg) (.slice aq mq cq) g), .int .i64 1]) (results_D2 rfl _ _ _ _ _ _ _ _ rfl rfl H1.out) rfl H2.out

    case pos =>
    obtain ⟨rfl, rfl⟩ := hsp
    have HOK : Hid (opK gs qs 3 t a 0 0 = true) := by show opK gs qs 3 t a 0 0 = true; simp [opK]
    by_cases hr : 0 ≤ a ∧ a ≤ (mg : Int) - 1
    case neg =>
      have HBN : Hid (beg t gs qs 3 a 0 0 = none) := by
        show beg t gs qs 3 a 0 0 = none
        simp only [beg]
        rw [if_neg (by decide), if_neg (by decide), if_neg (by have := HMM.out.1; omega)]
      have HDR : Hid (decide (0 ≤ a ∧ a ≤ (mg : Int) - 1) = false) := decide_eq_false hr
      obtain ⟨h1, h2⟩ := HOUT.out 3 (.inr ⟨HOK.out, HBN.out, rfl⟩) W0 (Below.refl _ _)
      have H1 : Hid _ := h1
      have H2 : Hid _ := h2
      clear h1 h2 HOUT

      clear hr
      go_wp2_with (first | (go_at_call 41; refine (in_c _ _ _ _).mono ?_; rintro e w9 ⟨rfl, hw9⟩; rw [hw9]; clear hw9 w9; first | rw [HDR.out]))
      exact bodyPost_ret (v := .tuple #[.agg (D4 n (.slice ag mg cg) (.slice aq mq cq) g), .int .i64 3]) (results_D2 rfl _ _ _ _ _ _ _ _ rfl rfl H1.out) rfl H2.out

    case pos =>
    obtain ⟨i, rfl⟩ := Int.eq_ofNat_of_zero_le hr.1
    have hil : i < gs.length := by have := HMM.out.1; omega
    have HDR : Hid (decide (0 ≤ (i : Int) ∧ (i : Int) ≤ (mg : Int) - 1) = true) := decide_eq_true hr
    obtain ⟨x, hx⟩ : ∃ x, gs[i]? = some x := ⟨_, List.getElem?_eq_getElem hil⟩
    have hxe : gs[i] = x := (List.getElem?_eq_some_iff.1 hx).2
    have hbz := HD.out.2.2.2.2.1.bz x (hxe ▸ List.getElem_mem hil)
    obtain ⟨x1', x2', x3'⟩ := x
    simp only at hbz
    have hi1 : (i : Int) < (mg : Int) := by omega
    have hi0 : (0 : Int) ≤ (i : Int) := by omega
    have him : i < mg := by omega
    by_cases hb : x2' = -1
    · have HBN : Hid (beg t gs qs 3 i 0 0 = none) := by
        show beg t gs qs 3 i 0 0 = none
        simp [beg, hil, hxe, hb]
      obtain ⟨bg, cg', hag, hbgP, hBbg, hbgw⟩ := M0.out.agb hil
      have hagb : ag = some ⟨bg, 0, none⟩ := by simp at hag; exact hag.1
      subst hagb
      have OA : Og 3 agC 36 B W0 (.slice (some ⟨bg, 0, none⟩) gs.length cg) gs := by rw [HMM.out.1]; exact M0.out.ag
      obtain ⟨d0, d1, d2, fd0, fd1, fd2⟩ := Og.cells OA rfl hx
      simp only at d0 d1 d2
      subst hb
      obtain ⟨h1, h2⟩ := HOUT.out 3 (.inr ⟨HOK.out, HBN.out, rfl⟩) W0 (Below.refl _ _)
      have H1 : Hid _ := h1
      have H2 : Hid _ := h2
      clear h1 h2 HOUT

      clear hx hxe hr OA hag
      go_wp2_with (first | (go_at_call 41; refine (in_c _ _ _ _).mono ?_; rintro e w9 ⟨rfl, hw9⟩; rw [hw9]; clear hw9 w9; first | rw [HDR.out]))
      exact bodyPost_ret (v := .tuple #[.agg (D4 n (.slice (some ⟨bg, 0, none⟩) mg cg) (.slice aq mq cq) g), .int .i64 3]) (results_D2 rfl _ _ _ _ _ _ _ _ rfl rfl H1.out) rfl H2.out
    · have HBN : Hid (beg t gs qs 3 i 0 0 = some (gs.set i (x1', -1, t), qs)) := by
        show beg t gs qs 3 i 0 0 = _
        simp [beg, hil, hxe, hb]
      have hbn : ¬ x2' < 0 := by omega
      obtain ⟨bg, cg', hag, hbgP, hBbg, hbgw⟩ := M0.out.agb hil
      have hagb : ag = some ⟨bg, 0, none⟩ := by simp at hag; exact hag.1
      subst hagb
      have OA : Og 3 agC 36 B W0 (.slice (some ⟨bg, 0, none⟩) gs.length cg) gs := by rw [HMM.out.1]; exact M0.out.ag
      obtain ⟨d0, d1, d2, fd0, fd1, fd2⟩ := Og.cells OA rfl hx
      have O1 := own_set1 agC_len OA rfl i 1 _ (x1', -1, x3') (.int .i64 (-1)) hx (by decide) rfl
      have O2 := own_set1 agC_len O1 (by simp) i 2 (x1', -1, x3') (x1', -1, t) (.int .i64 t) (set_at hx) (by decide) rfl
      rw [List.set_set] at O2
      have hbg1 : bg ≠ P + 1 := by
        have := row_blk M0.out.ag K0.out (by decide)
        intro e; exact this (by simp [Value.ownBlock, e])
      have hbg2 : bg ≠ P + 2 := by
        have := row_blk M0.out.ag R0.out (by decide)
        intro e; exact this (by simp [Value.ownBlock, e])
      obtain ⟨W4, hW4⟩ : ∃ W4, (W0.setCell ⟨bg, i * 3 + 1, none⟩ (.int .i64 (-1))).setCell ⟨bg, i * 3 + 2, none⟩ (.int .i64 t) = W4 := ⟨_, rfl⟩
      rw [HMM.out.1] at O2
      have g4 : W0.grownBy W4 (some bg) := hW4 ▸ grown_trans (grown_set' _ _ _ _) (grown_set' _ _ _ _)
      have M4 := M0.out.setAgent (gs' := gs.set i (x1', -1, t)) rfl g4 (hW4 ▸ O2)
      have hr4 : Blk W4 (P + 2) (D4 0 (.slice none 0 0) (.slice none 0 0) 0) 27 := by rw [Blk, g4.block _ R0.out.lt (by simp; exact Ne.symm hbg2)]; exact R0.out
      have BB4 : Fr X w W4 := BB0.out.grow g4 (fun k e => .inl (HXA.out k (by cases e; simp [Value.ownBlock])))
      obtain ⟨h1, h2⟩ := ldFin (code := 0) M4 hr4 hB HPP.out BB4 (.inr (.inr ⟨HOK.out, HBN.out, rfl⟩))
      rw [← hW4] at h1 h2
      have H1 : Hid _ := h1
      have H2 : Hid _ := h2
      simp only at d0 d1 d2
      clear h1 h2 M4 hr4 BB4 g4 hW4 O2 OA HOUT hx hag

      clear hxe hr hb O1 hbz
      have hbd : (decide (x2' < 0)) = false := by simp; omega
      clear hbn
      go_wp2_with (first | (go_at_call 41; refine (in_c _ _ _ _).mono ?_; rintro e w9 ⟨rfl, hw9⟩; rw [hw9]; clear hw9 w9; first | rw [HDR.out]))
      exact bodyPost_ret (v := .tuple #[.agg (D4 n (.slice (some ⟨bg, 0, none⟩) mg cg) (.slice aq mq cq) g), .int .i64 0]) (results_D2 rfl _ _ _ _ _ _ _ _ rfl rfl H1.out) rfl H2.out
  · obtain ⟨v, hv⟩ : ∃ v, decide (0 ≤ s ∧ s ≤ 255) = v := ⟨_, rfl⟩
    have HV : Hid (decide (0 ≤ s ∧ s ≤ 255) = v) := hv
    clear hv
    by_cases hsp : v = true ∧ p = 0
    case neg =>
      have HK1 : Hid (opK gs qs 4 t a s p = false) := by
        show opK gs qs 4 t a s p = false
        rw [opK, if_neg (by decide), if_neg (by decide), if_pos rfl, HV.out]
        cases v with
        | false => rfl
        | true => simp; intro h; exact hsp ⟨rfl, h⟩
      obtain ⟨h1, h2⟩ := HOUT.out 1 (.inl ⟨HK1.out, rfl⟩) W0 (Below.refl _ _)
      have H1 : Hid _ := h1
      have H2 : Hid _ := h2
      clear h1 h2 HOUT

      cases v with
      | false =>
        clear hsp
        go_wp2_with (first | (go_at_call 41; refine (in_c _ _ _ _).mono ?_; rintro e w9 ⟨rfl, hw9⟩; rw [hw9]; clear hw9 w9; first | rw [HV.out]))
        exact bodyPost_ret (v := .tuple #[.agg (D4 n (.slice ag mg cg) (.slice aq mq cq) g), .int .i64 1]) (results_D2 rfl _ _ _ _ _ _ _ _ rfl rfl H1.out) rfl H2.out

      | true =>
        have hp : ¬ p = 0 := fun h => hsp ⟨rfl, h⟩
        have hp' : (p != 0) = true := by simp [hp]
        clear hsp hp
        go_wp2_with (first | (go_at_call 41; refine (in_c _ _ _ _).mono ?_; rintro e w9 ⟨rfl, hw9⟩; rw [hw9]; clear hw9 w9; first | rw [HV.out]))
        exact bodyPost_ret (v := .tuple #[.agg (D4 n (.slice ag mg cg) (.slice aq mq cq) g), .int .i64 1]) (results_D2 rfl _ _ _ _ _ _ _ _ rfl rfl H1.out) rfl H2.out

    case pos =>
    obtain ⟨rfl, rfl⟩ := hsp
    have HOK : Hid (opK gs qs 4 t a s 0 = true) := by
      show opK gs qs 4 t a s 0 = true
      rw [opK, if_neg (by decide), if_neg (by decide), if_pos rfl, HV.out]; rfl
    by_cases hr : 0 ≤ a ∧ a ≤ (mg : Int) - 1
    case neg =>
      have HBN : Hid (beg t gs qs 4 a s 0 = none) := by
        show beg t gs qs 4 a s 0 = none
        simp only [beg]
        rw [if_neg (by decide), if_neg (by decide), if_neg (by have := HMM.out.1; omega)]
      have HDR : Hid (decide (0 ≤ a ∧ a ≤ (mg : Int) - 1) = false) := decide_eq_false hr
      obtain ⟨h1, h2⟩ := HOUT.out 3 (.inr ⟨HOK.out, HBN.out, rfl⟩) W0 (Below.refl _ _)
      have H1 : Hid _ := h1
      have H2 : Hid _ := h2
      clear h1 h2 HOUT

      clear hr
      go_wp2_with (first | (go_at_call 41; refine (in_c _ _ _ _).mono ?_; rintro e w9 ⟨rfl, hw9⟩; rw [hw9]; clear hw9 w9; first | rw [HV.out] | rw [HDR.out]))
      exact bodyPost_ret (v := .tuple #[.agg (D4 n (.slice ag mg cg) (.slice aq mq cq) g), .int .i64 3]) (results_D2 rfl _ _ _ _ _ _ _ _ rfl rfl H1.out) rfl H2.out

    case pos =>
    obtain ⟨i, rfl⟩ := Int.eq_ofNat_of_zero_le hr.1
    have hil : i < gs.length := by have := HMM.out.1; omega
    have HDR : Hid (decide (0 ≤ (i : Int) ∧ (i : Int) ≤ (mg : Int) - 1) = true) := decide_eq_true hr
    obtain ⟨x, hx⟩ : ∃ x, gs[i]? = some x := ⟨_, List.getElem?_eq_getElem hil⟩
    have hxe : gs[i] = x := (List.getElem?_eq_some_iff.1 hx).2
    obtain ⟨x1', x2', x3'⟩ := x
    have hi1 : (i : Int) < (mg : Int) := by omega
    have hi0 : (0 : Int) ≤ (i : Int) := by omega
    have him : i < mg := by omega
    have HBN : Hid (beg t gs qs 4 i s 0 = some (gs.set i (s, x2', x3'), qs)) := by
      show beg t gs qs 4 i s 0 = _
      simp [beg, hil, hxe]
    obtain ⟨bg, cg', hag, hbgP, hBbg, hbgw⟩ := M0.out.agb hil
    have hagb : ag = some ⟨bg, 0, none⟩ := by simp at hag; exact hag.1
    subst hagb
    have OA : Og 3 agC 36 B W0 (.slice (some ⟨bg, 0, none⟩) gs.length cg) gs := by rw [HMM.out.1]; exact M0.out.ag
    obtain ⟨d0, d1, d2, fd0, fd1, fd2⟩ := Og.cells OA rfl hx
    have O2 := own_set1 agC_len OA rfl i 0 _ (s, x2', x3') (.int .i64 s) hx (by decide) rfl
    have hbg1 : bg ≠ P + 1 := by
      have := row_blk M0.out.ag K0.out (by decide)
      intro e; exact this (by simp [Value.ownBlock, e])
    have hbg2 : bg ≠ P + 2 := by
      have := row_blk M0.out.ag R0.out (by decide)
      intro e; exact this (by simp [Value.ownBlock, e])
    obtain ⟨W4, hW4⟩ : ∃ W4, W0.setCell ⟨bg, i * 3, none⟩ (.int .i64 s) = W4 := ⟨_, rfl⟩
    rw [HMM.out.1] at O2
    have g4 : W0.grownBy W4 (some bg) := hW4 ▸ grown_set' _ _ _ _
    have M4 := M0.out.setAgent (gs' := gs.set i (s, x2', x3')) rfl g4 (hW4 ▸ O2)
    have hr4 : Blk W4 (P + 2) (D4 0 (.slice none 0 0) (.slice none 0 0) 0) 27 := by rw [Blk, g4.block _ R0.out.lt (by simp; exact Ne.symm hbg2)]; exact R0.out
    have BB4 : Fr X w W4 := BB0.out.grow g4 (fun k e => .inl (HXA.out k (by cases e; simp [Value.ownBlock])))
    obtain ⟨h1, h2⟩ := ldFin (code := 0) M4 hr4 hB HPP.out BB4 (.inr (.inr ⟨HOK.out, HBN.out, rfl⟩))
    rw [← hW4] at h1 h2
    have H1 : Hid _ := h1
    have H2 : Hid _ := h2
    simp only at d0 d1 d2
    clear h1 h2 M4 hr4 BB4 g4 hW4 O2 OA HOUT hx hag

    clear hxe hr
    go_wp2_with (first | (go_at_call 41; refine (in_c _ _ _ _).mono ?_; rintro e w9 ⟨rfl, hw9⟩; rw [hw9]; clear hw9 w9; first | rw [HV.out] | rw [HDR.out]))
    exact bodyPost_ret (v := .tuple #[.agg (D4 n (.slice (some ⟨bg, 0, none⟩) mg cg) (.slice aq mq cq) g), .int .i64 0]) (results_D2 rfl _ _ _ _ _ _ _ _ rfl rfl H1.out) rfl H2.out
end Go.Proofs.Ytpmmgbinogokfaa
