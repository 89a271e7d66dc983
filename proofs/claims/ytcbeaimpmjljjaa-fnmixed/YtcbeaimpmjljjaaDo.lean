/- The contract of the model's DoPanel; no condition but that nothing is too long. -/
import Derived.Test.YtcbeaimpmjljjaaJoin
namespace Go.Proofs.Ytcbeaimpmjljjaa
open Go.RowKit Go.ChangeShapes Go.WideShapes Go.ChangeAt
set_option linter.unusedVariables false
set_option linter.unusedSimpArgs false
set_option maxRecDepth 8000
/-- what an op leaves of the calls, and its answer; ok: is it a panel? -/
def doM (ok : Bool) (n : Int) (cs : Calls2) (k a b : Int) : Calls2 × Int :=
  if ok = false ∨ ¬ (1 ≤ k ∧ k ≤ 6) ∨ ¬ (0 ≤ a ∧ a ≤ n - 1) then (cs, 1)
  else if k = 1 then (if ¬ (0 ≤ b ∧ b ≤ n - 1) ∨ a = b then (cs, 1) else joinM cs a b)
  else if b ≠ 0 then (cs, 1)
  else if k = 6 then pickM cs a
  else match callAt cs a with
    | none => (cs, 4)
    | some i =>
      if k = 2 then (leaveM cs i ((cs.getD i (false, [])).1 || false) ((lsAt cs i).eraseIdx (plc (lsAt cs i) a).toNat), 0)
      else if k = 5 then (leaveM cs i ((cs.getD i (false, [])).1 || true) ((lsAt cs i).eraseIdx (plc (lsAt cs i) a).toNat), 0)
      else if ((lsAt cs i).getD (plc (lsAt cs i) a).toNat (0, false)).2 = decide (k = 3) then (cs, 2)
      else (cs.set i ((cs.getD i (false, [])).1, (lsAt cs i).set (plc (lsAt cs i) a).toNat (((lsAt cs i).getD (plc (lsAt cs i) a).toNat (0, false)).1, decide (k = 3))), 0)
/-- a panel and an op at work -/
structure Dw (n k a b : Int) (w : World) (W : World) (V : Value) (cs : Calls2) : Prop where
  box : Blk W w.heap.size #[.int .i64 n, V] 26
  op : Blk W (w.heap.size + 1) #[.int .i64 k, .int .i64 a, .int .i64 b] 35
  res : Blk W (w.heap.size + 1 + 1) #[.int .i64 0, .slice none 0 0] 26
  own : OwC (w.heap.size + 3) W V cs
  bel : Below w.heap.size w W
section
variable {n k a b : Int} {w W W' : World} {V : Value} {cs : Calls2}
theorem Dw.size (h : Dw n k a b w W V cs) : w.heap.size + 3 ≤ W.heap.size := by have := h.res.lt; omega
theorem Dw.below (h : Dw n k a b w W V cs) (hb : Below W.heap.size W W') : Dw n k a b w W' V cs :=
  ⟨h.box.below hb h.box.lt, h.op.below hb h.op.lt, h.res.below hb h.res.lt, h.own.below hb, h.bel.trans (hb.mono (by have := h.size; omega))⟩
/-- the result is stored -/
theorem Dw.put (hres : Blk W (w.heap.size + 1 + 1) #[.int .i64 0, .slice none 0 0] 26) (hb : Below w.heap.size w W) {V' : Value} {cs' : Calls2} (hO : OwC (w.heap.size + 3) W V' cs') {r : Calls2 × Int} (c : Int) : ∀ W4, (W.setCell ⟨w.heap.size + 1 + 1, 0, none⟩ (.int .i64 n)).setCell ⟨w.heap.size + 1 + 1, 1, none⟩ V' = W4 →
    Blk W4 (w.heap.size + 1 + 1) #[.int .i64 n, V'] 26 ∧ (r = (cs', c) → PanR n w.heap.size w r (.returned (.tuple #[.agg #[.int .i64 n, V'], .int .i64 c])) W4) := by
  rintro _ rfl
  refine ⟨?_, fun e => ⟨_, by rw [e], ?_, (hb.setCell (by dsimp only; omega) _).setCell (by dsimp only; omega) _⟩⟩
  · have := (hres.set 0 (.int .i64 n)).set 1 V'
    simpa using this
  · rw [e]
    exact ((hO.far (grown_set _ _ _ _) (by omega)).far (grown_set _ _ _ _) (by omega)).mono (by omega)
end
theorem pr_set2 {α : Type} (f g : α → Value) : ∀ (ls : List α) (i : Nat) (x : α) (h : i < ls.length), f x = f ls[i] → (pr f g ls).set (i * 2 + 1) (g x) = pr f g (ls.set i x)
  | y :: r, 0, x, _, e => by simp at e; simp [pr, e]
  | y :: r, i + 1, x, h, e => by
    have := pr_set2 f g r i x (by simpa using h) (by simpa using e)
    rw [show (i + 1) * 2 + 1 = i * 2 + 1 + 2 by omega]
    simpa [pr] using this
/-- where a leg of a call lies, and what is left when its mark is turned -/
theorem OwC.leg {base : Nat} {w : World} {g cap : Nat} {cs : Calls2} (h : OwC base w (.slice (some ⟨g, 0, none⟩) cs.length cap) cs) {i j : Nat} (hi : i < cs.length) (hj : j < cs[i].2.length) : ∃ gx capx, base ≤ gx ∧ gx < w.heap.size ∧ g < w.heap.size ∧ cs[i].2.length ≤ capx ∧ capx ≤ 2 ^ 63 - 1 ∧
    w.cell? ⟨g, i * 2 + 1, none⟩ = some (.slice (some ⟨gx, 0, none⟩) cs[i].2.length capx) ∧ w.cell? ⟨gx, j * 2 + 1, none⟩ = some (.bool cs[i].2[j].2) ∧ w.frozen? ⟨gx, j * 2 + 1, none⟩ = false ∧
    ∀ t : Bool, OwC base (w.setCell ⟨gx, j * 2 + 1, none⟩ (.bool t)) (.slice (some ⟨g, 0, none⟩) cs.length cap) (cs.set i (cs[i].1, cs[i].2.set j (cs[i].2[j].1, t))) := by
  obtain ⟨lv, hl, hO, hL⟩ := h
  have hil : i < lv.length := by omega
  obtain ⟨q1, q2, q3, q4⟩ := hL i hil hi
  obtain ⟨gx, capx, hY, hxb, hxl⟩ := World.ownsRow.form q2 (by omega)
  have hO' : w.ownsRow base 45 2 (.slice (some ⟨g, 0, none⟩) cs.length cap) cs.length (pr Prod.fst Prod.snd lv) := by have := hO; rw [Op, hl] at this; exact this
  have q2' : w.ownsRow base 42 2 (.slice (some ⟨gx, 0, none⟩) cs[i].2.length capx) cs[i].2.length (pr lf lg cs[i].2) := by have := q2; rw [Op, hY] at this; exact this
  have hc : cs[i].2.length ≤ capx ∧ capx ≤ 2 ^ 63 - 1 := by
    obtain ⟨a', c', e', m1, m2, -⟩ := own_form q2'
    cases e'; exact ⟨m1, m2⟩
  have hp := pr_at Prod.fst Prod.snd lv i hil
  have hp2 := pr_at lf lg cs[i].2 j hj
  refine ⟨gx, capx, hxb, hxl, (World.ownsRow.lt hO' g rfl).2, hc.1, hc.2, ?_, ?_, World.ownsRow.frozenAt q2' _, fun t => ?_⟩
  · rw [World.ownsRow.cellAt hO' (i * 2 + 1) (by omega), hp.2, hY]
  · rw [World.ownsRow.cellAt q2' (j * 2 + 1) (by omega)]; exact hp2.2
  · have hgx : g ≠ gx := by
      rw [hY] at q3
      rcases q3 with e | e
      · cases e
      · exact fun e2 => e (by rw [e2]; rfl)
    have s1 := (World.ownsRow.stored q2' (j * 2 + 1) (.bool t)).1
    have e : (pr lf lg cs[i].2).set (j * 2 + 1) (.bool t) = pr lf lg (cs[i].2.set j (cs[i].2[j].1, t)) := pr_set2 lf lg cs[i].2 j (cs[i].2[j].1, t) hj rfl
    rw [e] at s1
    have L := hL.put hil hi hl cs[i].1 lv[i].2 (cs[i].2.set j (cs[i].2[j].1, t)) (w2 := w.setCell ⟨gx, j * 2 + 1, none⟩ (.bool t)) (by rw [hY]; exact grown_set _ _ _ _) (by rw [Op, List.length_set, hY]; exact s1) (.inl rfl) (fun k e => (World.ownsRow.lt hO' k e).2)
    have e2 : lv.set i (.bool cs[i].1, lv[i].2) = lv := by
      rw [show (Value.bool cs[i].1, lv[i].2) = lv[i] from Prod.ext q1.symm rfl]
      exact List.set_getElem_self ..
    rw [e2] at L
    refine ⟨lv, by simp [hl], ?_, L⟩
    rw [Op, hl]
    exact World.ownsRow.kept hO' (grown_set _ _ _ _) (.inr (by simp [Value.ownBlock]; exact hgx))
theorem callAt_leg {cs : Calls2} {l : Int} {i : Nat} (h : callAt cs l = some i) : ∃ (hi : i < cs.length) (j : Nat) (hj : j < cs[i].2.length), plc cs[i].2 l = (j : Int) := by
  rw [callAt, List.findIdx?_eq_some_iff_getElem] at h
  obtain ⟨hi, h1, -⟩ := h
  cases hq : legAt cs[i].2 l with
  | none => rw [hq] at h1; cases h1
  | some j =>
    obtain ⟨hj, -⟩ := legAt_some hq
    exact ⟨hi, j, hj, by simp [plc, hq]⟩
set_option maxHeartbeats 6400000 in
theorem do_c (n : Int) (v : Value) (cs : Calls2) (k a b : Int) (w : World) (h : RdC w v cs) (hn : cs.length ≤ 4194304) (hm : ∀ c ∈ cs, c.2.length ≤ 4194304) :
   Calls Try.prog 19 #[.agg #[.int .i64 n, v], .agg #[.int .i64 k, .int .i64 a, .int .i64 b]] w fun e w' => ∃ ok, (ok = true ↔ POk n cs) ∧ PanR n w.heap.size w (doM ok n cs k a b) e w' := by
  obtain ⟨W0, hW0⟩ : ∃ W0, ((w.alloc (Obj.cells #[.int .i64 n, v] 26)).alloc (Obj.cells #[.int .i64 k, .int .i64 a, .int .i64 b] 35)).alloc (Obj.cells #[.int .i64 0, .slice none 0 0] 26) = W0 := ⟨_, rfl⟩
  have kb : Below w.heap.size w W0 := hW0 ▸ (((Below.refl _ _).alloc (Nat.le_refl _) _).alloc (by simp) _).alloc (by simp; omega) _
  have k0 : Blk W0 w.heap.size #[.int .i64 n, v] 26 := hW0 ▸ ((Blk.newAt _ _ _ 26 rfl).alloc _).alloc _
  have k1 : Blk W0 (w.heap.size + 1) #[.int .i64 k, .int .i64 a, .int .i64 b] 35 := hW0 ▸ (Blk.newAt _ _ _ 35 (by simp)).alloc _
  have k2 : Blk W0 (w.heap.size + 1 + 1) #[.int .i64 0, .slice none 0 0] 26 := hW0 ▸ Blk.newAt _ _ _ 26 (by simp)
  have hs0 : W0.heap.size = w.heap.size + 3 := by rw [← hW0]; simp
  have HC : Hid (Calls Try.prog 58 #[.agg #[.int .i64 n, v]] W0 fun e w' => ∃ v', e = .returned (.agg #[.int .i64 n, v']) ∧ OwC W0.heap.size w' v' cs ∧ Below W0.heap.size W0 w') := copy_c n v cs W0 (h.below kb) hn hm
  have HW : Hid (((w.alloc (Obj.cells #[.int .i64 n, v] 26)).alloc (Obj.cells #[.int .i64 k, .int .i64 a, .int .i64 b] 35)).alloc (Obj.cells #[.int .i64 0, .slice none 0 0] 26) = W0) := hW0
  have HK : Hid (Blk W0 w.heap.size #[.int .i64 n, v] 26 ∧ Blk W0 (w.heap.size + 1) #[.int .i64 k, .int .i64 a, .int .i64 b] 35 ∧ Blk W0 (w.heap.size + 1 + 1) #[.int .i64 0, .slice none 0 0] 26 ∧ Below w.heap.size w W0) := ⟨k0, k1, k2, kb⟩
  obtain ⟨rv, hrl, ⟨av, cap, rfl, -⟩, -⟩ := h
  clear hW0 kb k0 k1 k2 hrl
  go_enter Try.func19, Try.ntmps19
  go_wp2_with (fail)
  rw [HW.out]
  refine HC.out.mono ?_
  rintro e w1 ⟨v1, rfl, ho1, b1⟩
  rw [hs0] at ho1
  obtain ⟨ao, co, hv1, x1, x2, x3⟩ : ∃ ao co, v1 = .slice ao cs.length co ∧ cs.length ≤ co ∧ co ≤ 2 ^ 63 - 1 ∧ (cs.length = 0 ∨ ∃ b, ao = some ⟨b, 0, none⟩) := by
    obtain ⟨lv, e1, e2, -⟩ := ho1
    obtain ⟨a', c', e3, e4, e5, e6⟩ := own_form e2
    rw [e1] at e3 e4 e6
    exact ⟨a', c', e3, e4, e5, e6⟩
  subst hv1
  have q0 := HK.out.1.below b1 (by omega)
  have c0 := q0.cell 0
  have c1 := q0.cell 1
  have f0 := q0.frozen 0
  have f1 := q0.frozen 1
  simp at c0 c1
  have D2 : Hid (∀ w2, (w1.setCell ⟨w.heap.size, 0, none⟩ (.int .i64 n)).setCell ⟨w.heap.size, 1, none⟩ (.slice ao cs.length co) = w2 → Dw n k a b w w2 (.slice ao cs.length co) cs) := by
    rintro _ rfl
    obtain ⟨-, r1, r2, r3⟩ := HK.out
    refine ⟨?_, ((r1.below b1 (by omega)).other _ _ (by dsimp only; omega)).other _ _ (by dsimp only; omega), ((r2.below b1 (by omega)).other _ _ (by dsimp only; omega)).other _ _ (by dsimp only; omega), (ho1.far (grown_set _ _ _ _) (by omega)).far (grown_set _ _ _ _) (by omega), ?_⟩
    · have := (q0.set 0 (.int .i64 n)).set 1 (.slice ao cs.length co)
      simpa using this
    · exact ((r3.trans (b1.mono (by omega))).setCell (by exact Nat.le_refl _) _).setCell (by exact Nat.le_refl _) _
  clear q0 ho1 b1 HK HC HW
  go_wp2_with (fail)
  obtain ⟨w2, hw2⟩ : ∃ w2, (w1.setCell ⟨w.heap.size, 0, none⟩ (.int .i64 n)).setCell ⟨w.heap.size, 1, none⟩ (.slice ao cs.length co) = w2 := ⟨_, rfl⟩
  rw [hw2]
  have D2' := D2.out w2 hw2
  refine (ok_c n _ cs _ D2'.own.rd).mono ?_
  rintro e w3 ⟨r, rfl, hr, b3⟩
  have D3 : Hid (Dw n k a b w w3 (.slice ao cs.length co) cs) := D2'.below b3
  have HR : Hid (r = true ↔ POk n cs) := hr
  clear D2 D2' hw2 hr b3 c0 c1 f0 f1
  have c0 := D3.out.box.cell 0
  have c1 := D3.out.box.cell 1
  have d0 := D3.out.op.cell 0
  have d1 := D3.out.op.cell 1
  have d2 := D3.out.op.cell 2
  have g0 := D3.out.res.cell 0
  have g1 := D3.out.res.cell 1
  have f0 := D3.out.res.frozen 0
  have f1 := D3.out.res.frozen 1
  simp at c0 c1 d0 d1 d2 g0 g1
  have hs3 := D3.out.size
  have hq0 : w.heap.size < w3.heap.size := by omega
  have hq1 : w.heap.size + 1 < w3.heap.size := by omega
  have hq2 : w.heap.size + 1 + 1 < w3.heap.size := by omega
  cases r
  · have HM : Hid (doM false n cs k a b = (cs, 1)) := by
      show doM false n cs k a b = (cs, 1)
      simp [doM]
    go_wp2
    exact bodyPost_ret (v := .tuple #[.agg #[.int .i64 n, .slice ao cs.length co], .int .i64 1]) (results_26 rfl _ _ _ _ _ _ rfl rfl (Dw.put (n := n) (r := doM false n cs k a b) D3.out.res D3.out.bel D3.out.own 1 _ rfl).1) rfl ⟨_, HR.out, (Dw.put D3.out.res D3.out.bel D3.out.own 1 _ rfl).2 HM.out⟩
  have hP : POk n cs := HR.out.1 rfl
  have hn1 : 1 ≤ n := hP.1
  have hn40 : n ≤ 40 := hP.2.1
  have H8 : Hid (∀ c ∈ cs, c.2.length ≤ 8) := fun c hc => by
    obtain ⟨t, ht, rfl⟩ := List.getElem_of_mem hc
    exact (hP.2.2.1 t ht).2.1
  have HRT : Hid (POk n cs) := hP
  clear hP HR
  by_cases hk : ¬ (1 ≤ k ∧ k ≤ 6)
  · have dk : decide (1 ≤ k ∧ k ≤ 6) = false := decide_eq_false hk
    have da : True := trivial
    have db : True := trivial
    have HM : Hid (doM true n cs k a b = (cs, 1)) := by
      show doM true n cs k a b = (cs, 1)
      rw [doM, if_pos (.inr (.inl hk))]
    clear hk
    go_wp2_with (go_at_call 53; refine (in_c _ _ _ _).mono ?_; rintro e w' ⟨rfl, rfl⟩; first | rw [dk] | rw [da] | rw [db])
    exact bodyPost_ret (v := .tuple #[.agg #[.int .i64 n, .slice ao cs.length co], .int .i64 1]) (results_26 rfl _ _ _ _ _ _ rfl rfl (Dw.put (n := n) (r := doM true n cs k a b) D3.out.res D3.out.bel D3.out.own 1 _ rfl).1) rfl ⟨true, ⟨fun _ => HRT.out, fun _ => rfl⟩, (Dw.put D3.out.res D3.out.bel D3.out.own 1 _ rfl).2 HM.out⟩
  replace hk := Decidable.not_not.1 hk
  have dk : decide (1 ≤ k ∧ k ≤ 6) = true := decide_eq_true hk
  by_cases ha : ¬ (0 ≤ a ∧ a ≤ n - 1)
  · have da : decide (0 ≤ a ∧ a ≤ n - 1) = false := decide_eq_false ha
    have db : True := trivial
    have HM : Hid (doM true n cs k a b = (cs, 1)) := by
      show doM true n cs k a b = (cs, 1)
      rw [doM, if_pos (.inr (.inr ha))]
    clear hk ha
    go_wp2_with (go_at_call 53; refine (in_c _ _ _ _).mono ?_; rintro e w' ⟨rfl, rfl⟩; first | rw [dk] | rw [da] | rw [db])
    exact bodyPost_ret (v := .tuple #[.agg #[.int .i64 n, .slice ao cs.length co], .int .i64 1]) (results_26 rfl _ _ _ _ _ _ rfl rfl (Dw.put (n := n) (r := doM true n cs k a b) D3.out.res D3.out.bel D3.out.own 1 _ rfl).1) rfl ⟨true, ⟨fun _ => HRT.out, fun _ => rfl⟩, (Dw.put D3.out.res D3.out.bel D3.out.own 1 _ rfl).2 HM.out⟩
  replace ha := Decidable.not_not.1 ha
  have da : decide (0 ≤ a ∧ a ≤ n - 1) = true := decide_eq_true ha
  by_cases hk1 : k = 1
  · subst hk1
    by_cases hb : ¬ (0 ≤ b ∧ b ≤ n - 1)
    · have db : decide (0 ≤ b ∧ b ≤ n - 1) = false := decide_eq_false hb
      have HM : Hid (doM true n cs 1 a b = (cs, 1)) := by
        show doM true n cs 1 a b = (cs, 1)
        rw [doM, if_neg (by simp; omega), if_pos rfl, if_pos (.inl hb)]
      clear hk ha hb
      go_wp2_with (go_at_call 53; refine (in_c _ _ _ _).mono ?_; rintro e w' ⟨rfl, rfl⟩; first | rw [dk] | rw [da] | rw [db])
      exact bodyPost_ret (v := .tuple #[.agg #[.int .i64 n, .slice ao cs.length co], .int .i64 1]) (results_26 rfl _ _ _ _ _ _ rfl rfl (Dw.put (n := n) (r := doM true n cs 1 a b) D3.out.res D3.out.bel D3.out.own 1 _ rfl).1) rfl ⟨true, ⟨fun _ => HRT.out, fun _ => rfl⟩, (Dw.put D3.out.res D3.out.bel D3.out.own 1 _ rfl).2 HM.out⟩
    replace hb := Decidable.not_not.1 hb
    have db : decide (0 ≤ b ∧ b ≤ n - 1) = true := decide_eq_true hb
    by_cases hab : a = b
    · subst hab
      have HM : Hid (doM true n cs 1 a a = (cs, 1)) := by
        show doM true n cs 1 a a = (cs, 1)
        rw [doM, if_neg (by simp; omega), if_pos rfl, if_pos (.inr rfl)]
      clear hk ha hb
      go_wp2_with (go_at_call 53; refine (in_c _ _ _ _).mono ?_; rintro e w' ⟨rfl, rfl⟩; first | rw [dk] | rw [da] | rw [db])
      exact bodyPost_ret (v := .tuple #[.agg #[.int .i64 n, .slice ao cs.length co], .int .i64 1]) (results_26 rfl _ _ _ _ _ _ rfl rfl (Dw.put (n := n) (r := doM true n cs 1 a a) D3.out.res D3.out.bel D3.out.own 1 _ rfl).1) rfl ⟨true, ⟨fun _ => HRT.out, fun _ => rfl⟩, (Dw.put D3.out.res D3.out.bel D3.out.own 1 _ rfl).2 HM.out⟩
    · have HM0 : Hid (doM true n cs 1 a b = joinM cs a b) := by
        show doM true n cs 1 a b = joinM cs a b
        rw [doM, if_neg (by simp; omega), if_pos rfl, if_neg (by intro h; rcases h with h | h; exact h hb; exact hab h)]
      have HJ : Hid (Calls Try.prog 59 #[.agg #[.int .i64 n, .slice ao cs.length co], .int .i64 a, .int .i64 b] w3 (PanR n (w.heap.size + 3) w3 (joinM cs a b))) := join_c n _ cs a b _ w3 D3.out.own hs3 hn H8.out
      clear hk ha hb
      go_wp2_with (go_at_call 53; refine (in_c _ _ _ _).mono ?_; rintro e w' ⟨rfl, rfl⟩; first | rw [dk] | rw [da] | rw [db])
      refine HJ.out.mono ?_
      rintro e w4 ⟨v4, rfl, ho4, b4⟩
      have R4 : Hid (Blk w4 (w.heap.size + 1 + 1) #[.int .i64 0, .slice none 0 0] 26) := D3.out.res.below b4 (by omega)
      have B4 : Hid (Below w.heap.size w w4) := D3.out.bel.trans (b4.mono (by omega))
      have O4 : Hid (OwC (w.heap.size + 3) w4 v4 (joinM cs a b).1) := ho4
      obtain ⟨a4, n4, c4, hv4⟩ : ∃ a4 n4 c4, v4 = .slice a4 n4 c4 := by
        obtain ⟨lv, e1, e2, -⟩ := ho4
        obtain ⟨a', c', e3, -⟩ := own_form e2
        exact ⟨a', _, c', e3⟩
      subst hv4
      have HM : Hid (doM true n cs 1 a b = ((joinM cs a b).1, (joinM cs a b).2)) := HM0.out
      obtain ⟨rr, hrr⟩ : ∃ rr, joinM cs a b = rr := ⟨_, rfl⟩
      rw [hrr]
      rw [hrr] at O4 HM
      obtain ⟨rc, ri⟩ := rr
      clear HJ HM0 ho4 b4 c0 c1 d0 d1 d2 g0 g1 f0 f1 hrr
      have g0 := R4.out.cell 0
      have g1 := R4.out.cell 1
      have f0 := R4.out.frozen 0
      have f1 := R4.out.frozen 1
      simp at g0 g1
      go_wp2
      exact bodyPost_ret (v := .tuple #[.agg #[.int .i64 n, .slice a4 n4 c4], .int .i64 ri]) (results_26 rfl _ _ _ _ _ _ rfl rfl (Dw.put (n := n) (r := doM true n cs 1 a b) R4.out B4.out O4.out ri _ rfl).1) rfl ⟨true, ⟨fun _ => HRT.out, fun _ => rfl⟩, (Dw.put R4.out B4.out O4.out ri _ rfl).2 HM.out⟩
  have db : True := trivial
  by_cases hb0 : b ≠ 0
  · have HM : Hid (doM true n cs k a b = (cs, 1)) := by
      show doM true n cs k a b = (cs, 1)
      rw [doM, if_neg (by simp; omega), if_neg hk1, if_pos hb0]
    clear hk ha
    go_wp2_with (go_at_call 53; refine (in_c _ _ _ _).mono ?_; rintro e w' ⟨rfl, rfl⟩; first | rw [dk] | rw [da] | rw [db])
    exact bodyPost_ret (v := .tuple #[.agg #[.int .i64 n, .slice ao cs.length co], .int .i64 1]) (results_26 rfl _ _ _ _ _ _ rfl rfl (Dw.put (n := n) (r := doM true n cs k a b) D3.out.res D3.out.bel D3.out.own 1 _ rfl).1) rfl ⟨true, ⟨fun _ => HRT.out, fun _ => rfl⟩, (Dw.put D3.out.res D3.out.bel D3.out.own 1 _ rfl).2 HM.out⟩
  replace hb0 := Decidable.not_not.1 hb0
  subst hb0
  by_cases hk6 : k = 6
  · subst hk6
    have HM0 : Hid (doM true n cs 6 a 0 = pickM cs a) := by
      show doM true n cs 6 a 0 = pickM cs a
      rw [doM, if_neg (by simp; omega), if_neg (by decide), if_neg (by simp), if_pos rfl]
    have HJ : Hid (Calls Try.prog 60 #[.agg #[.int .i64 n, .slice ao cs.length co], .int .i64 a] w3 (PanR n (w.heap.size + 3) w3 (pickM cs a))) := pick_c n _ cs a _ w3 D3.out.own hs3 hn H8.out
    clear hk ha hk1
    go_wp2_with (go_at_call 53; refine (in_c _ _ _ _).mono ?_; rintro e w' ⟨rfl, rfl⟩; first | rw [dk] | rw [da] | rw [db])
    refine HJ.out.mono ?_
    rintro e w4 ⟨v4, rfl, ho4, b4⟩
    have R4 : Hid (Blk w4 (w.heap.size + 1 + 1) #[.int .i64 0, .slice none 0 0] 26) := D3.out.res.below b4 (by omega)
    have B4 : Hid (Below w.heap.size w w4) := D3.out.bel.trans (b4.mono (by omega))
    have O4 : Hid (OwC (w.heap.size + 3) w4 v4 (pickM cs a).1) := ho4
    obtain ⟨a4, n4, c4, hv4⟩ : ∃ a4 n4 c4, v4 = .slice a4 n4 c4 := by
      obtain ⟨lv, e1, e2, -⟩ := ho4
      obtain ⟨a', c', e3, -⟩ := own_form e2
      exact ⟨a', _, c', e3⟩
    subst hv4
    have HM : Hid (doM true n cs 6 a 0 = ((pickM cs a).1, (pickM cs a).2)) := HM0.out
    obtain ⟨rr, hrr⟩ : ∃ rr, pickM cs a = rr := ⟨_, rfl⟩
    rw [hrr]
    rw [hrr] at O4 HM
    obtain ⟨rc, ri⟩ := rr
    clear HJ HM0 ho4 b4 c0 c1 d0 d1 d2 g0 g1 f0 f1 hrr
    have g0 := R4.out.cell 0
    have g1 := R4.out.cell 1
    have f0 := R4.out.frozen 0
    have f1 := R4.out.frozen 1
    simp at g0 g1
    go_wp2
    exact bodyPost_ret (v := .tuple #[.agg #[.int .i64 n, .slice a4 n4 c4], .int .i64 ri]) (results_26 rfl _ _ _ _ _ _ rfl rfl (Dw.put (n := n) (r := doM true n cs 6 a 0) R4.out B4.out O4.out ri _ rfl).1) rfl ⟨true, ⟨fun _ => HRT.out, fun _ => rfl⟩, (Dw.put R4.out B4.out O4.out ri _ rfl).2 HM.out⟩
  have HF : Hid (Calls Try.prog 61 #[.agg #[.int .i64 n, .slice ao cs.length co], .int .i64 a] w3 fun e w' => ∃ i k : Int, e = .returned (.tuple #[.int .i64 i, .int .i64 k]) ∧ Found cs a i k ∧ Below w3.heap.size w3 w') := find_c n _ cs a w3 D3.out.own.rd
  go_wp2_with (go_at_call 53; refine (in_c _ _ _ _).mono ?_; rintro e w' ⟨rfl, rfl⟩; first | rw [dk] | rw [da] | rw [db])
  refine HF.out.mono ?_
  rintro e w4 ⟨i0, k0, rfl, hf, b4⟩
  obtain ⟨rfl, rfl⟩ := found_eq hf
  have D4 : Hid (Dw n k a 0 w w4 (.slice ao cs.length co) cs) := D3.out.below b4
  clear hf b4 HF D3 c0 c1 d0 d1 d2 g0 g1 f0 f1 hs3 hq0 hq1 hq2 dk da db
  have c0 := D4.out.box.cell 0
  have c1 := D4.out.box.cell 1
  have d0 := D4.out.op.cell 0
  have d1 := D4.out.op.cell 1
  have d2 := D4.out.op.cell 2
  have g0 := D4.out.res.cell 0
  have g1 := D4.out.res.cell 1
  have f0 := D4.out.res.frozen 0
  have f1 := D4.out.res.frozen 1
  simp at c0 c1 d0 d1 d2 g0 g1
  have hs4 := D4.out.size
  have hq0 : w.heap.size < w4.heap.size := by omega
  have hq1 : w.heap.size + 1 < w4.heap.size := by omega
  have hq2 : w.heap.size + 1 + 1 < w4.heap.size := by omega
  obtain ⟨kz, hkz⟩ : ∃ z, lidx cs a = z := ⟨_, rfl⟩
  obtain ⟨iz, hiz⟩ : ∃ z, cidx cs a = z := ⟨_, rfl⟩
  rw [hkz, hiz]
  cases hca : callAt cs a with
  | none =>
    rw [cidx_none hca] at hiz
    subst hiz
    have HM : Hid (doM true n cs k a 0 = (cs, 4)) := by
      show doM true n cs k a 0 = (cs, 4)
      rw [doM, if_neg (by simp; omega), if_neg hk1, if_neg (by simp), if_neg hk6, hca]
    clear hk ha hk1 hk6 hca hkz
    go_wp2
    exact bodyPost_ret (v := .tuple #[.agg #[.int .i64 n, .slice ao cs.length co], .int .i64 4]) (results_26 rfl _ _ _ _ _ _ rfl rfl (Dw.put (n := n) (r := doM true n cs k a 0) D4.out.res D4.out.bel D4.out.own 4 _ rfl).1) rfl ⟨true, ⟨fun _ => HRT.out, fun _ => rfl⟩, (Dw.put D4.out.res D4.out.bel D4.out.own 4 _ rfl).2 HM.out⟩
  | some i =>
    rw [cidx_some hca] at hiz
    subst hiz
    obtain ⟨hi, j, hj, hpl⟩ := callAt_leg hca
    have hlx : lidx cs a = (j : Int) := by
      simp only [lidx, hca]
      rw [← hpl, List.getD_eq_getElem?_getD, List.getElem?_eq_getElem hi]; rfl
    rw [hlx] at hkz
    subst hkz
    have HCA : Hid (callAt cs a = some i) := hca
    have HPL : Hid (plc cs[i].2 a = (j : Int)) := hpl
    have HGD : Hid ((cs.getD i (false, [])).1 = cs[i].1) := by
      show (cs.getD i (false, [])).1 = cs[i].1
      rw [List.getD_eq_getElem?_getD, List.getElem?_eq_getElem hi]; rfl
    have HGJ : Hid ((cs[i].2.getD j (0, false)) = cs[i].2[j]) := by
      show (cs[i].2.getD j (0, false)) = cs[i].2[j]
      rw [List.getD_eq_getElem?_getD, List.getElem?_eq_getElem hj]; rfl
    clear hca hpl hlx
    rcases (show k = 2 ∨ k = 5 ∨ k = 3 ∨ k = 4 by omega) with hkk | hkk | hkk
    · subst hkk
      have HM : Hid (doM true n cs 2 a 0 = (leaveM cs i (cs[i].1 || false) (cs[i].2.eraseIdx j), 0)) := by
        show doM true n cs 2 a 0 = (leaveM cs i (cs[i].1 || false) (cs[i].2.eraseIdx j), 0)
        rw [doM, if_neg (by simp; omega), if_neg (by decide), if_neg (by simp), if_neg (by decide), HCA.out]
        simp only [lsAt_eq hi, HPL.out, HGD.out, Int.toNat_natCast]
        simp
      have HJ : Hid (Calls Try.prog 62 #[.agg #[.int .i64 n, .slice ao cs.length co], .int .i64 i, .int .i64 j, .bool false] w4 fun e w' => ∃ v', e = .returned (.agg #[.int .i64 n, v']) ∧ OwC (w.heap.size + 3) w' v' (leaveM cs i (cs[i].1 || false) (cs[i].2.eraseIdx j)) ∧ Below (w.heap.size + 3) w4 w') := leave_c n _ cs i j false _ w4 D4.out.own hs4 hi hj hn (hm _ (List.getElem_mem hi))
      clear hk ha hk1 hk6
      go_wp2_with (fail)
      refine HJ.out.mono ?_
      rintro e w5 ⟨v5, rfl, ho5, b5⟩
      have R5 : Hid (Blk w5 (w.heap.size + 1 + 1) #[.int .i64 0, .slice none 0 0] 26) := D4.out.res.below b5 (by omega)
      have B5 : Hid (Below w.heap.size w w5) := D4.out.bel.trans (b5.mono (by omega))
      have O5 : Hid (OwC (w.heap.size + 3) w5 v5 (leaveM cs i (cs[i].1 || false) (cs[i].2.eraseIdx j))) := ho5
      obtain ⟨a5, n5, c5, hv5⟩ : ∃ a5 n5 c5, v5 = .slice a5 n5 c5 := by
        obtain ⟨lv, e1, e2, -⟩ := ho5
        obtain ⟨a', c', e3, -⟩ := own_form e2
        exact ⟨a', _, c', e3⟩
      subst hv5
      clear HJ ho5 b5 c0 c1 d0 d1 d2 g0 g1 f0 f1
      have g0 := R5.out.cell 0
      have g1 := R5.out.cell 1
      have f0 := R5.out.frozen 0
      have f1 := R5.out.frozen 1
      simp at g0 g1
      go_wp2
      exact bodyPost_ret (v := .tuple #[.agg #[.int .i64 n, .slice a5 n5 c5], .int .i64 0]) (results_26 rfl _ _ _ _ _ _ rfl rfl (Dw.put (n := n) (r := doM true n cs 2 a 0) R5.out B5.out O5.out 0 _ rfl).1) rfl ⟨true, ⟨fun _ => HRT.out, fun _ => rfl⟩, (Dw.put R5.out B5.out O5.out 0 _ rfl).2 HM.out⟩
    · subst hkk
      have HM : Hid (doM true n cs 5 a 0 = (leaveM cs i (cs[i].1 || true) (cs[i].2.eraseIdx j), 0)) := by
        show doM true n cs 5 a 0 = (leaveM cs i (cs[i].1 || true) (cs[i].2.eraseIdx j), 0)
        rw [doM, if_neg (by simp; omega), if_neg (by decide), if_neg (by simp), if_neg (by decide), HCA.out]
        simp only [lsAt_eq hi, HPL.out, HGD.out, Int.toNat_natCast]
        simp
      have HJ : Hid (Calls Try.prog 62 #[.agg #[.int .i64 n, .slice ao cs.length co], .int .i64 i, .int .i64 j, .bool true] w4 fun e w' => ∃ v', e = .returned (.agg #[.int .i64 n, v']) ∧ OwC (w.heap.size + 3) w' v' (leaveM cs i (cs[i].1 || true) (cs[i].2.eraseIdx j)) ∧ Below (w.heap.size + 3) w4 w') := leave_c n _ cs i j true _ w4 D4.out.own hs4 hi hj hn (hm _ (List.getElem_mem hi))
      clear hk ha hk1 hk6
      go_wp2_with (fail)
      refine HJ.out.mono ?_
      rintro e w5 ⟨v5, rfl, ho5, b5⟩
      have R5 : Hid (Blk w5 (w.heap.size + 1 + 1) #[.int .i64 0, .slice none 0 0] 26) := D4.out.res.below b5 (by omega)
      have B5 : Hid (Below w.heap.size w w5) := D4.out.bel.trans (b5.mono (by omega))
      have O5 : Hid (OwC (w.heap.size + 3) w5 v5 (leaveM cs i (cs[i].1 || true) (cs[i].2.eraseIdx j))) := ho5
      obtain ⟨a5, n5, c5, hv5⟩ : ∃ a5 n5 c5, v5 = .slice a5 n5 c5 := by
        obtain ⟨lv, e1, e2, -⟩ := ho5
        obtain ⟨a', c', e3, -⟩ := own_form e2
        exact ⟨a', _, c', e3⟩
      subst hv5
      clear HJ ho5 b5 c0 c1 d0 d1 d2 g0 g1 f0 f1
      have g0 := R5.out.cell 0
      have g1 := R5.out.cell 1
      have f0 := R5.out.frozen 0
      have f1 := R5.out.frozen 1
      simp at g0 g1
      go_wp2
      exact bodyPost_ret (v := .tuple #[.agg #[.int .i64 n, .slice a5 n5 c5], .int .i64 0]) (results_26 rfl _ _ _ _ _ _ rfl rfl (Dw.put (n := n) (r := doM true n cs 5 a 0) R5.out B5.out O5.out 0 _ rfl).1) rfl ⟨true, ⟨fun _ => HRT.out, fun _ => rfl⟩, (Dw.put R5.out B5.out O5.out 0 _ rfl).2 HM.out⟩
    · obtain ⟨g, rfl⟩ : ∃ g, ao = some ⟨g, 0, none⟩ := by
        rcases x3 with h | h
        · omega
        · exact h
      obtain ⟨gx, capx, l0, l0', l0'', l1, l1', l2, l3, l4, l5⟩ := D4.out.own.leg hi hj
      have hll : cs[i].2.length ≤ 4194304 := hm _ (List.getElem_mem hi)
      rcases hkk with hkk | hkk
      · subst hkk
        have HDO : Hid (doM true n cs 3 a 0 = if cs[i].2[j].2 = true then (cs, 2) else (cs.set i (cs[i].1, cs[i].2.set j (cs[i].2[j].1, true)), 0)) := by
          show doM true n cs 3 a 0 = _
          rw [doM, if_neg (by simp; omega), if_neg (by decide), if_neg (by simp), if_neg (by decide), HCA.out]
          simp only [lsAt_eq hi, HPL.out, HGD.out, Int.toNat_natCast, HGJ.out]
          simp
        by_cases hh : cs[i].2[j].2 = true
        · have HM : Hid (doM true n cs 3 a 0 = (cs, 2)) := by have := HDO.out; rw [if_pos hh] at this; exact this
          rw [hh] at l3
          clear hk ha hk1 hk6 hh l5
          go_wp2
          exact bodyPost_ret (v := .tuple #[.agg #[.int .i64 n, .slice (some ⟨g, 0, none⟩) cs.length co], .int .i64 2]) (results_26 rfl _ _ _ _ _ _ rfl rfl (Dw.put (n := n) (r := doM true n cs 3 a 0) D4.out.res D4.out.bel D4.out.own 2 _ rfl).1) rfl ⟨true, ⟨fun _ => HRT.out, fun _ => rfl⟩, (Dw.put D4.out.res D4.out.bel D4.out.own 2 _ rfl).2 HM.out⟩
        · have HM : Hid (doM true n cs 3 a 0 = (cs.set i (cs[i].1, cs[i].2.set j (cs[i].2[j].1, true)), 0)) := by have := HDO.out; rw [if_neg hh] at this; exact this
          have hh' : cs[i].2[j].2 = false := by simpa using hh
          rw [hh'] at l3
          have R5 : Hid (Blk (w4.setCell ⟨gx, j * 2 + 1, none⟩ (.bool true)) (w.heap.size + 1 + 1) #[.int .i64 0, .slice none 0 0] 26) := D4.out.res.other _ _ (by dsimp only; omega)
          have B5 : Hid (Below w.heap.size w (w4.setCell ⟨gx, j * 2 + 1, none⟩ (.bool true))) := D4.out.bel.setCell (by dsimp only; omega) _
          have O5 : Hid (OwC (w.heap.size + 3) (w4.setCell ⟨gx, j * 2 + 1, none⟩ (.bool true)) (.slice (some ⟨g, 0, none⟩) cs.length co) (cs.set i (cs[i].1, cs[i].2.set j (cs[i].2[j].1, true)))) := l5 true
          clear hk ha hk1 hk6 hh l5 hh'
          go_wp2
          exact bodyPost_ret (v := .tuple #[.agg #[.int .i64 n, .slice (some ⟨g, 0, none⟩) cs.length co], .int .i64 0]) (results_26 rfl _ _ _ _ _ _ rfl rfl (Dw.put (n := n) (r := doM true n cs 3 a 0) R5.out B5.out O5.out 0 _ rfl).1) rfl ⟨true, ⟨fun _ => HRT.out, fun _ => rfl⟩, (Dw.put R5.out B5.out O5.out 0 _ rfl).2 HM.out⟩
      · subst hkk
        have HDO : Hid (doM true n cs 4 a 0 = if cs[i].2[j].2 = false then (cs, 2) else (cs.set i (cs[i].1, cs[i].2.set j (cs[i].2[j].1, false)), 0)) := by
          show doM true n cs 4 a 0 = _
          rw [doM, if_neg (by simp; omega), if_neg (by decide), if_neg (by simp), if_neg (by decide), HCA.out]
          simp only [lsAt_eq hi, HPL.out, HGD.out, Int.toNat_natCast, HGJ.out]
          simp
        by_cases hh : cs[i].2[j].2 = false
        · have HM : Hid (doM true n cs 4 a 0 = (cs, 2)) := by have := HDO.out; rw [if_pos hh] at this; exact this
          rw [hh] at l3
          clear hk ha hk1 hk6 hh l5
          go_wp2
          exact bodyPost_ret (v := .tuple #[.agg #[.int .i64 n, .slice (some ⟨g, 0, none⟩) cs.length co], .int .i64 2]) (results_26 rfl _ _ _ _ _ _ rfl rfl (Dw.put (n := n) (r := doM true n cs 4 a 0) D4.out.res D4.out.bel D4.out.own 2 _ rfl).1) rfl ⟨true, ⟨fun _ => HRT.out, fun _ => rfl⟩, (Dw.put D4.out.res D4.out.bel D4.out.own 2 _ rfl).2 HM.out⟩
        · have HM : Hid (doM true n cs 4 a 0 = (cs.set i (cs[i].1, cs[i].2.set j (cs[i].2[j].1, false)), 0)) := by have := HDO.out; rw [if_neg hh] at this; exact this
          have hh' : cs[i].2[j].2 = true := by simpa using hh
          rw [hh'] at l3
          have R5 : Hid (Blk (w4.setCell ⟨gx, j * 2 + 1, none⟩ (.bool false)) (w.heap.size + 1 + 1) #[.int .i64 0, .slice none 0 0] 26) := D4.out.res.other _ _ (by dsimp only; omega)
          have B5 : Hid (Below w.heap.size w (w4.setCell ⟨gx, j * 2 + 1, none⟩ (.bool false))) := D4.out.bel.setCell (by dsimp only; omega) _
          have O5 : Hid (OwC (w.heap.size + 3) (w4.setCell ⟨gx, j * 2 + 1, none⟩ (.bool false)) (.slice (some ⟨g, 0, none⟩) cs.length co) (cs.set i (cs[i].1, cs[i].2.set j (cs[i].2[j].1, false)))) := l5 false
          clear hk ha hk1 hk6 hh l5 hh'
          go_wp2
          exact bodyPost_ret (v := .tuple #[.agg #[.int .i64 n, .slice (some ⟨g, 0, none⟩) cs.length co], .int .i64 0]) (results_26 rfl _ _ _ _ _ _ rfl rfl (Dw.put (n := n) (r := doM true n cs 4 a 0) R5.out B5.out O5.out 0 _ rfl).1) rfl ⟨true, ⟨fun _ => HRT.out, fun _ => rfl⟩, (Dw.put R5.out B5.out O5.out 0 _ rfl).2 HM.out⟩
end Go.Proofs.Ytcbeaimpmjljjaa
